package filter

import (
	"bytes"
	"fmt"
	"math/rand"
	"reflect"
	"slices"
	"strings"
	"testing"
	"time"
	"unsafe"

	"creel/api"
	"creel/glob"
	"creel/path"
	"creel/tree"
)

func dir(s string) api.Node { return api.Node{Path: s, Kind: api.Dir} }

func sym(s string) api.Node { return api.Node{Path: s, Kind: api.Sym, Target: "a"} }

func file(s, data string) api.Node { return api.Node{Path: s, Kind: api.File, Data: []byte(data)} }

// linked is one of the files that are the same.
func linked(s string, same int, data string) api.Node {
	return api.Node{Path: s, Kind: api.File, Same: same, Data: []byte(data)}
}

// sample is a tree with directories in one another, and names that begin alike.
func sample() []api.Node {
	return []api.Node{
		file("A", "x"), dir("a"), dir("a/b"), file("a/b/c.go", "x"), dir("a/b/d"), linked("a/b/d/a", 1, "y"), sym("a/b/e"), file("a/b-", ""), dir("a/bb"),
		dir("a/c"), file("a/c/b", ""), file("a!", ""), dir("a-b"), linked("a-b/c", 1, "y"), file("a-b/\xff.go", ""), sym("aa"), dir("b"),
	}
}

// wide has n directories at its top.
func wide(n int) []api.Node {
	var l []api.Node
	for i := range n {
		l = append(l, dir(fmt.Sprintf("d%05d", i)))
	}
	return l
}

// deep has n directories, each one in the one ahead of it.
func deep(n int) []api.Node {
	var l []api.Node
	for i := range n {
		l = append(l, dir("a"+strings.Repeat("/a", i)))
	}
	return l
}

// rules from texts: a sign, "+" for a rule that takes and "-" for one that does not, and a pattern.
func rules(texts ...string) []api.Rule {
	var l []api.Rule
	for _, s := range texts {
		l = append(l, api.Rule{Take: s[0] == '+', Pattern: s[1:]})
	}
	return l
}

// many times the same rule.
func many(n int, text string) []api.Rule { return slices.Repeat(rules(text), n) }

func pathsOf(l []api.Node) []string {
	var paths []string
	for _, n := range l {
		paths = append(paths, n.Path)
	}
	return paths
}

// said is a list in one line, with every byte that is no text escaped.
func said(l any) string { return fmt.Sprintf("%.300q", fmt.Sprint(l)) }

func isEqual(a, b api.Node) bool {
	data := bytes.Equal(a.Data, b.Data)
	a.Data, b.Data = nil, nil
	return data && reflect.DeepEqual(a, b)
}

func wantCheck(t *testing.T, l []api.Rule, want api.Errno) {
	t.Helper()
	if err := Check(l); err != want {
		t.Errorf("Check(%s) = %d, want %d", said(l), err, want)
	}
}

func wantTakes(t *testing.T, l []api.Rule, s string, want bool, wantErr api.Errno) {
	t.Helper()
	if got, err := Takes(l, s); got != want || err != wantErr {
		t.Errorf("Takes(%s, %.50q) = %t, %d, want %t, %d", said(l), s, got, err, want, wantErr)
	}
}

// wantPaths tells of all the paths which ones the rules take.
func wantPaths(t *testing.T, l []api.Rule, taken, others []string) {
	t.Helper()
	for _, s := range taken {
		wantTakes(t, l, s, true, api.OK)
	}
	for _, s := range others {
		wantTakes(t, l, s, false, api.OK)
	}
}

func wantRun(t *testing.T, nodes []api.Node, l []api.Rule, want []api.Node, wantErr api.Errno) {
	t.Helper()
	if got, err := Run(nodes, l); !slices.EqualFunc(got, want, isEqual) || err != wantErr {
		t.Errorf("Run(%s, %s) = %s, %d, want %s, %d", said(nodes), said(l), said(got), err, said(want), wantErr)
	}
}

// wantKept tells by their paths which nodes of the sample the rules keep.
func wantKept(t *testing.T, l []api.Rule, paths ...string) {
	t.Helper()
	var want []api.Node
	for _, n := range sample() {
		if slices.Contains(paths, n.Path) {
			want = append(want, n)
		}
	}
	if len(want) != len(paths) {
		t.Fatalf("%q: not all of them are in the sample", paths)
	}
	wantRun(t, sample(), l, want, api.OK)
}

// P14.1
func TestCheck(t *testing.T) {
	wantCheck(t, nil, api.OK)
	wantCheck(t, []api.Rule{}, api.OK)
	wantCheck(t, rules("+a"), api.OK)
	wantCheck(t, rules("-a"), api.OK)
	wantCheck(t, rules("-**", "+a/**/*.go", "-[!a-c]?", "+[]]"), api.OK)
	wantCheck(t, rules("-a", "+a", "-a"), api.OK)
	wantCheck(t, rules("+..", "-a\x00"), api.OK)
	wantCheck(t, rules("+"+strings.Repeat("x", 400), "-"+strings.Repeat("*", 400)), api.OK)
	for n := range 30 {
		want := api.OK
		if n > 12 {
			want = api.ErrSize
		}
		wantCheck(t, many(n, "+a"), want)
		wantCheck(t, many(n, "-**"), want)
	}
	wantCheck(t, many(5000, "+a"), api.ErrSize)
}

// P14.1: a wrong pattern at any place, whether its rule takes or not.
func TestCheckPatterns(t *testing.T) {
	for p, want := range map[string]api.Errno{
		"": api.ErrSize, strings.Repeat("x", 401): api.ErrSize, "/": api.ErrPath, "a//b": api.ErrPath, "a/": api.ErrPath, "[": api.ErrForm, "a/[!]": api.ErrForm,
		"[/]": api.ErrForm,
	} {
		for i := range 12 {
			for _, sign := range []string{"+", "-"} {
				l := many(12, "+a")
				l[i] = rules(sign + p)[0]
				wantCheck(t, l, want)
				wantCheck(t, l[:i+1], want)
				wantCheck(t, l[:i], api.OK)
			}
		}
	}
}

// P14.1: the number of rules counts first, then the first rule that is wrong.
func TestCheckOrder(t *testing.T) {
	wantCheck(t, many(13, "+["), api.ErrSize)
	wantCheck(t, many(13, "-a//b"), api.ErrSize)
	wantCheck(t, append(rules("+["), many(12, "+a")...), api.ErrSize)
	wantCheck(t, append(many(12, "+a"), rules("+[")...), api.ErrSize)
	wantCheck(t, append(rules("+["), many(11, "+a")...), api.ErrForm)
	texts := []string{"+", "+[", "+/", "+a"}
	errs := []api.Errno{api.ErrSize, api.ErrForm, api.ErrPath, api.OK}
	for i, one := range texts {
		for j, other := range texts {
			want := errs[i]
			if want == api.OK {
				want = errs[j]
			}
			wantCheck(t, rules(one, other), want)
			wantCheck(t, rules("-b", one, "-c", other), want)
		}
	}
}

// P14.2
func TestTakes(t *testing.T) {
	wantPaths(t, nil, []string{"a", "a/b", "\xff", strings.Repeat("x", 400)}, nil)
	wantPaths(t, []api.Rule{}, []string{"a", "a/b"}, nil)
	wantPaths(t, rules("-a"), []string{"b", "a/b", "aa", "A", "b/a"}, []string{"a"})
	wantPaths(t, rules("+a"), []string{"a", "b", "a/b"}, nil)
	wantPaths(t, rules("-**"), nil, []string{"a", "a/b", "a/b/c"})
	wantPaths(t, rules("-a/**"), []string{"b", "ab", "b/a"}, []string{"a", "a/b", "a/b/c"})
	wantPaths(t, rules("-**/*.go"), []string{"a", "a/b", "a.go/b"}, []string{"a.go", "a/b.go", "a/b/c.go", ".go"})
	wantPaths(t, rules("-[!a]"), []string{"a", "bb", "b/b"}, []string{"b", "A"})
}

// P14.2: the last rule that matches counts, wherever it is, and no rule that does not.
func TestTakesLast(t *testing.T) {
	wantPaths(t, rules("-**", "+a"), []string{"a"}, []string{"b", "a/b", "aa"})
	wantPaths(t, rules("+a", "-**"), nil, []string{"a", "b", "a/b"})
	wantPaths(t, rules("-a", "+a"), []string{"a", "b"}, nil)
	wantPaths(t, rules("+a", "-a"), []string{"b"}, []string{"a"})
	wantPaths(t, rules("-a", "+a", "-a"), []string{"b"}, []string{"a"})
	wantPaths(t, rules("-a", "+b"), []string{"b", "c"}, []string{"a"})
	wantPaths(t, rules("-a", "-b"), []string{"c"}, []string{"a", "b"})
	wantPaths(t, rules("-**", "+a/**", "-a/b/**", "+a/b/c"), []string{"a", "a/a", "a/b/c"}, []string{"b", "a/b", "a/b/d", "a/b/c/d"})
	wantPaths(t, rules("-*", "+?", "-b"), []string{"a", "a/b"}, []string{"aa", "b"})
	for i := range 12 {
		l := many(12, "-b")
		l[i] = rules("-a")[0]
		wantPaths(t, l, []string{"c"}, []string{"a"})
		for j := range 12 {
			if j != i {
				l := slices.Clone(l)
				l[j] = rules("+a")[0]
				wantTakes(t, l, "a", j > i, api.OK)
			}
		}
	}
}

// P14.2: a path by itself, whatever the rules say of what it is in.
func TestTakesAlone(t *testing.T) {
	wantPaths(t, rules("-a"), []string{"a/b", "a/b/c"}, []string{"a"})
	wantPaths(t, rules("-**", "+a/b/c"), []string{"a/b/c"}, []string{"a", "a/b"})
}

// P14.2: the errors of Check come first, then those of path.Check, whatever would match.
func TestTakesErrors(t *testing.T) {
	long := strings.Repeat("x", 401)
	for _, c := range []struct {
		l    []api.Rule
		s    string
		want api.Errno
	}{
		{many(13, "+a"), "a", api.ErrSize},
		{many(13, "+["), "/", api.ErrSize},
		{rules("+"), "a", api.ErrSize},
		{rules("+"), "/", api.ErrSize},
		{rules("+" + long), "\x00", api.ErrSize},
		{rules("+["), "a", api.ErrForm},
		{rules("+["), "", api.ErrForm},
		{rules("+["), "/", api.ErrForm},
		{rules("-[", "+a"), "a", api.ErrForm},
		{rules("+a", "-["), "a", api.ErrForm},
		{rules("+//"), "a", api.ErrPath},
		{rules("+//"), "", api.ErrPath},
		{rules("+//"), "\x00", api.ErrPath},
		{rules("+//", "+["), long, api.ErrPath},
		{rules("+[", "+//"), long, api.ErrForm},
		{nil, "", api.ErrSize},
		{nil, long, api.ErrSize},
		{nil, "a\x00", api.ErrForm},
		{nil, "/", api.ErrPath},
		{nil, "a/", api.ErrPath},
		{nil, "a/../b", api.ErrPath},
		{rules("+**"), "", api.ErrSize},
		{rules("+" + long[1:]), long, api.ErrSize},
		{rules("+a\x00"), "a\x00", api.ErrForm},
		{rules("+."), ".", api.ErrPath},
		{rules("-**", "+.."), "..", api.ErrPath},
		{many(12, "+a"), "a//b", api.ErrPath},
	} {
		wantTakes(t, c.l, c.s, false, c.want)
	}
}

// takesByWords is the Take of the last rule that matches.
func takesByWords(l []api.Rule, s string) bool {
	take := true
	for _, r := range l {
		if fits, _ := glob.Fits(r.Pattern, s); fits {
			take = r.Take
		}
	}
	return take
}

// eachOf calls do with every list of at most n rules of a pool.
func eachOf(n int, pool []api.Rule, do func([]api.Rule)) {
	l := make([]api.Rule, 0, n)
	var more func()
	more = func() {
		do(l)
		if len(l) == n {
			return
		}
		for _, r := range pool {
			l = append(l, r)
			more()
			l = l[:len(l)-1]
		}
	}
	more()
}

// pool are rules of which lists are made, right ones and wrong ones.
func pool() []api.Rule {
	return rules("+**", "-**", "+a", "-a", "+a/**", "-a/*", "+*/b", "-**/b", "+[!b]", "-?/?/?", "+", "-[", "+/")
}

// P14.1 and P14.2: all short lists of rules.
func TestShort(t *testing.T) {
	eachOf(3, pool(), func(l []api.Rule) {
		var err api.Errno
		for _, r := range l {
			if err == api.OK {
				err = glob.Check(r.Pattern)
			}
		}
		wantCheck(t, l, err)
		for _, s := range []string{"a", "b", "c", "a/a", "a/b", "b/b", "a/b/b", "b/c/a"} {
			wantTakes(t, l, s, err == api.OK && takesByWords(l, s), err)
		}
		for _, s := range []string{"", "\x00", "a/"} {
			want := err
			if want == api.OK {
				want = path.Check(s)
			}
			wantTakes(t, l, s, false, want)
		}
	})
}

// P14.3
func TestRun(t *testing.T) {
	all := pathsOf(sample())
	wantKept(t, nil, all...)
	wantKept(t, []api.Rule{}, all...)
	wantKept(t, rules("+a"), all...)
	wantKept(t, rules("-**", "+**"), all...)
	wantKept(t, rules("-**"))
	wantKept(t, rules("-**", "+a"), "a")
	wantKept(t, rules("-**", "+a", "+a/b"), "a", "a/b")
	wantKept(t, rules("-**", "+*"), "A", "a", "a!", "a-b", "aa", "b")
	wantKept(t, rules("-a", "-a-b"), "A", "a!", "aa", "b")
	wantKept(t, rules("-a/**", "-a-b/*"), "A", "a!", "a-b", "aa", "b")
	wantKept(t, rules("-a/b"), "A", "a", "a/b-", "a/bb", "a/c", "a/c/b", "a!", "a-b", "a-b/c", "a-b/\xff.go", "aa", "b")
	wantKept(t, rules("-**/*.go", "-a/[!b]*", "-a/b-", "-a/bb"), "A", "a", "a/b", "a/b/d", "a/b/d/a", "a/b/e", "a!", "a-b", "a-b/c", "aa", "b")
	wantKept(t, rules("-?/**"), "a!", "a-b", "a-b/c", "a-b/\xff.go", "aa")
	wantRun(t, nil, nil, nil, api.OK)
	wantRun(t, nil, rules("-**", "+a"), nil, api.OK)
	wantRun(t, []api.Node{}, many(12, "+**"), nil, api.OK)
	wantRun(t, wide(40), many(12, "+**"), wide(40), api.OK)
	wantRun(t, wide(40), append(many(11, "+**"), rules("-**")...), nil, api.OK)
}

// P14.3: what is in a directory that is not selected is not kept, even if a rule takes it; what is in none is.
func TestRunIn(t *testing.T) {
	wantKept(t, rules("-**", "+a/b"))
	wantKept(t, rules("-**", "+a/b", "+a/b/**"))
	wantKept(t, rules("-**", "+a", "+a/b/c.go", "+a/b/d/**"), "a")
	wantKept(t, rules("-a", "-[!a]", "+a/**", "-a"), "a!", "a-b", "a-b/c", "a-b/\xff.go", "aa")
	wantKept(t, rules("-a/b", "+a/b/**", "-a/b"), "A", "a", "a/b-", "a/bb", "a/c", "a/c/b", "a!", "a-b", "a-b/c", "a-b/\xff.go", "aa", "b")
	wantKept(t, rules("-**", "+**/*.go"))
	wantKept(t, rules("-**", "+*", "+**/*.go"), "A", "a", "a!", "a-b", "a-b/\xff.go", "aa", "b")
	wantKept(t, rules("-**", "+a", "+a/b", "+**/*.go"), "a", "a/b", "a/b/c.go")
	for n := 1; n <= 40; n++ {
		nodes := deep(40)
		wantRun(t, nodes, rules("-"+nodes[n-1].Path), deep(n-1), api.OK)
		wantRun(t, nodes, rules("-"+nodes[n-1].Path+"/**"), deep(n-1), api.OK)
		if n > 1 {
			wantRun(t, nodes, rules("-**", "+"+nodes[n-1].Path), nil, api.OK)
		}
	}
	// A name that begins like that of a directory is not in it.
	wantRun(t, []api.Node{dir("a"), file("a/b", "x"), dir("a-b"), file("a-b/c", "y"), dir("ab"), sym("ab/c")}, rules("-a"),
		[]api.Node{dir("a-b"), file("a-b/c", "y"), dir("ab"), sym("ab/c")}, api.OK)
}

// P14.3: each node stays as it is, also if other names of its file, or what it points at, are not selected.
func TestRunWhole(t *testing.T) {
	own := api.Meta{Mode: 0o644, UID: 1000, GID: 100, User: "ann", Group: "staff", Second: -1700000000, Nano: 5}
	full := func(s string) api.Node {
		return api.Node{Path: s, Kind: api.File, Same: 7, Meta: own, Data: []byte("x\x00")}
	}
	to := api.Node{Path: "d", Kind: api.Sym, Target: "a/b", Meta: own}
	in := api.Node{Path: "a", Kind: api.Dir, Meta: own}
	nodes := []api.Node{in, full("a/b"), full("a/c"), full("c"), to}
	wantRun(t, nodes, nil, nodes, api.OK)
	wantRun(t, nodes, rules("-a/b"), []api.Node{in, full("a/c"), full("c"), to}, api.OK)
	wantRun(t, nodes, rules("-a"), []api.Node{full("c"), to}, api.OK)
	wantRun(t, nodes, rules("-**", "+d"), []api.Node{to}, api.OK)
}

// P14.3: the errors of tree.Check come first, then those of Check; also where nothing would be selected.
func TestRunErrors(t *testing.T) {
	trees := []struct {
		l    []api.Node
		want api.Errno
	}{
		{sample(), api.OK},
		{nil, api.OK},
		{wide(41), api.ErrSize},
		{make([]api.Node, 5000), api.ErrSize},
		{[]api.Node{dir("a"), dir("")}, api.ErrSize},
		{[]api.Node{file("a", strings.Repeat("x", 2001))}, api.ErrSize},
		{[]api.Node{dir("a"), file("a/\x00", "")}, api.ErrForm},
		{[]api.Node{dir("a"), dir("a/..")}, api.ErrPath},
		{[]api.Node{dir("a"), {Path: "b", Kind: api.Dir, Meta: api.Meta{Mode: -1}}}, api.ErrRange},
		{[]api.Node{dir("a"), {Path: "b", Kind: api.Link, Target: "a"}}, api.ErrKind},
		{[]api.Node{dir("b"), dir("a")}, api.ErrTwice},
		{[]api.Node{dir("a"), dir("a")}, api.ErrTwice},
		{sample()[2:], api.ErrUp},
		{[]api.Node{file("a", ""), file("a/b", "")}, api.ErrUp},
		{[]api.Node{linked("a", 1, "x"), linked("b", 1, "y")}, api.ErrLink},
	}
	lists := []struct {
		l    []api.Rule
		want api.Errno
	}{
		{rules("-**"), api.OK},
		{many(13, "+a"), api.ErrSize},
		{many(13, "+["), api.ErrSize},
		{rules("-**", "+"), api.ErrSize},
		{rules("-//", "+["), api.ErrPath},
		{rules("+[", "-//"), api.ErrForm},
		{rules("-[", "-**"), api.ErrForm},
	}
	for _, nodes := range trees {
		for _, l := range lists {
			want := nodes.want
			if want == api.OK {
				want = l.want
			}
			wantRun(t, nodes.l, l.l, nil, want)
		}
	}
}

// runByWords keeps a node if the rules take all parts of its path from the first one on.
func runByWords(nodes []api.Node, l []api.Rule) []api.Node {
	var kept []api.Node
	for _, n := range nodes {
		take := true
		for i := range len(n.Path) + 1 {
			if i == len(n.Path) || n.Path[i] == '/' {
				take = take && takesByWords(l, n.Path[:i])
			}
		}
		if take {
			kept = append(kept, n)
		}
	}
	return kept
}

// P14.3: many trees and many rules; what is kept is a tree.
func TestRunRandom(t *testing.T) {
	random := rand.New(rand.NewSource(14))
	names := []string{"a", "b", "a-b", "a!", "\xff"}
	pieces := []string{"a", "b", "*", "*", "?", "**", "**", "a*", "[!a]", "[a-b]*"}
	of := func(l []string) string {
		s := l[random.Intn(len(l))]
		for random.Intn(2) == 0 {
			s += "/" + l[random.Intn(len(l))]
		}
		return s
	}
	some := 0
	for range 300 {
		var nodes []api.Node
		for range 100 {
			s := of(names)
			n := []api.Node{dir(s), dir(s), dir(s), file(s, "x"), sym(s), linked(s, 1, "y")}[random.Intn(6)]
			if next, err := tree.Put(nodes, n); err == api.OK {
				nodes = next
			}
		}
		for range 20 {
			var l []api.Rule
			for range random.Intn(13) {
				l = append(l, api.Rule{Take: random.Intn(2) == 0, Pattern: of(pieces)})
			}
			want := runByWords(nodes, l)
			wantRun(t, nodes, l, want, api.OK)
			if err := tree.Check(want); err != api.OK {
				t.Errorf("%s of %s is no tree: %d", said(l), said(nodes), err)
			}
			if 0 < len(want) && len(want) < len(nodes) {
				some++
			}
		}
	}
	if some < 2000 {
		t.Errorf("only %d lists of rules keep some nodes, but not all", some)
	}
}

// P14.1 to P14.3: the greatest sizes take no long time.
func TestSizes(t *testing.T) {
	var nodes []api.Node
	for i := range 40 {
		nodes = append(nodes, file(fmt.Sprintf("%s%02d", strings.Repeat("a", 398), i), strings.Repeat("x", 2000)))
	}
	begin := time.Now()
	l := many(12, "-"+strings.Repeat("a*", 199)+"b")
	wantCheck(t, l, api.OK)
	wantTakes(t, l, nodes[39].Path, true, api.OK)
	wantRun(t, nodes, l, nodes, api.OK)
	if d := time.Since(begin); d > 20*time.Second {
		t.Errorf("it took %s", d)
	}
}

// crowded is a tree at the start of a longer list, with something in the unused capacity of all lists. One list is the data
// of all nodes that have any.
func crowded() []api.Node {
	data := append(make([]byte, 0, 64), "one, and what is behind it"...)
	own := api.Meta{User: "ann", Group: "staff"}
	file := func(s string) api.Node { return api.Node{Path: s, Kind: api.File, Meta: own, Data: data[:3]} }
	return []api.Node{dir("a"), file("a/b"), dir("a/c"), file("a/c/d"), sym("d"), file("e"), file("0"), dir("1")}[:6]
}

// crowdedRules are rules at the start of a longer list.
func crowdedRules() []api.Rule { return rules("-**", "+*", "+a/**", "-a/b", "-**", "+[")[:4] }

// room is all of a list, up to its capacity, and all of the lists in it; a later change of the list does not change it.
func room(l []api.Node) string {
	s := ""
	for _, n := range l[:cap(l)] {
		s += fmt.Sprintf("%q %q ", fmt.Sprint(n), n.Data[:cap(n.Data)])
	}
	return s
}

// scribble changes all that can be changed in a list, up to its capacity.
func scribble(l []api.Node) {
	for i := range l[:cap(l)] {
		data := l[:cap(l)][i].Data
		for j := range data[:cap(data)] {
			data[:cap(data)][j] = '!'
		}
		l[:cap(l)][i] = api.Node{Path: "!", Data: data}
	}
}

// P14.1 to P14.3: arguments are not changed.
func TestArguments(t *testing.T) {
	for _, l := range [][]api.Rule{nil, crowdedRules(), many(13, "+a"), rules("-**", "+[")} {
		nodes := crowded()
		before, rulesBefore := room(nodes), fmt.Sprint(l[:cap(l)])
		Check(l)
		Takes(l, "a")
		Run(nodes, l)
		if room(nodes) != before || fmt.Sprint(l[:cap(l)]) != rulesBefore {
			t.Errorf("an argument was changed: %s, %s", said(nodes), said(l))
		}
	}
}

// P14.3: the result shares nothing with the arguments or another result, whether all nodes are kept or not.
func TestMemory(t *testing.T) {
	for _, l := range [][]api.Rule{nil, rules("+**"), crowdedRules(), rules("-e"), rules("-a")} {
		nodes := crowded()
		one, _ := Run(nodes, l)
		other, _ := Run(nodes, l)
		whole := room(one)
		scribble(other)
		scribble(nodes)
		if room(one) != whole || len(one) == 0 {
			t.Error("a result shares memory with the argument or another result")
		}
		for i, n := range one {
			others := slices.Clip(slices.Delete(slices.Clone(one), i, i+1))
			whole := room(others)
			for j := range n.Data[:cap(n.Data)] {
				n.Data[:cap(n.Data)][j]++
			}
			if room(others) != whole {
				t.Errorf("the data of node %d is that of another node too", i)
			}
		}
	}
}

// P14.3: strings are copied, so that no result keeps a longer string in memory of which one is a part.
func TestMemoryOfStrings(t *testing.T) {
	nodes := crowded()
	begin := map[*byte]bool{}
	strs := func(l []api.Node) []string {
		var all []string
		for _, n := range l {
			all = append(all, n.Path, n.Target, n.Meta.User, n.Meta.Group)
		}
		return all
	}
	for _, s := range strs(nodes) {
		if s != "" {
			begin[unsafe.StringData(s)] = true
		}
	}
	for range 2 {
		kept, _ := Run(nodes, nil)
		for _, s := range strs(kept) {
			if s != "" && begin[unsafe.StringData(s)] {
				t.Errorf("a result has the string %q of an argument or another result", s)
			}
		}
		for _, s := range strs(kept) {
			if s != "" {
				begin[unsafe.StringData(s)] = true
			}
		}
	}
}
