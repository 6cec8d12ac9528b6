package diff

import (
	"fmt"
	"math"
	"math/rand"
	"slices"
	"strings"
	"testing"
	"time"
	"unsafe"

	"creel/api"
	"creel/tree"
)

// owner is metadata with nothing wrong in it, and no field of value zero; far has the greatest values.
var (
	owner = api.Meta{Mode: 0o644, UID: 1000, GID: 100, User: "ann", Group: "staff", Second: 1700000000, Nano: 5}
	far   = api.Meta{Mode: 0o7777, UID: 1 << 50, GID: 1 << 50, User: xs(60), Group: xs(60), Second: -1 << 40, Nano: 999999999}
)

func xs(n int) string { return strings.Repeat("x", n) }

// dir, sym, file and linked are nodes of each kind; linked is one of the files that are the same.
func dir(s string) api.Node { return api.Node{Path: s, Kind: api.Dir} }

func sym(s, target string) api.Node { return api.Node{Path: s, Kind: api.Sym, Target: target} }

func file(s, data string) api.Node { return api.Node{Path: s, Kind: api.File, Data: []byte(data)} }

func linked(s string, same int, data string) api.Node {
	n := file(s, data)
	n.Same = same
	return n
}

// of is a node with other metadata.
func of(m api.Meta, n api.Node) api.Node {
	n.Meta = m
	return n
}

func gone(n api.Node) api.Change { return api.Change{Kind: api.Gone, Node: n} }

func fresh(n api.Node) api.Change { return api.Change{Kind: api.New, Node: n} }

func other(n api.Node) api.Change { return api.Change{Kind: api.Other, Node: n} }

// lost is the removal of a path, without anything else of its node.
func lost(s string) api.Change { return gone(api.Node{Path: s}) }

// sample has nodes of every kind, files of one, two and three names, and something in every field.
func sample() []api.Node {
	return []api.Node{
		of(owner, dir("a")), of(owner, linked("a/b", 7, "one\x00")), dir("a/c"), of(owner, linked("a/c/d", 7, "one\x00")), linked("a/c/e", 3, ""),
		of(far, file("a/c/f", xs(512))), of(owner, sym("a-b", "../a//\xff")), linked("b", 3, ""), of(far, dir("c")), of(owner, linked("c/a", 7, "one\x00")),
	}
}

// wide has n directories at its top.
func wide(n int) []api.Node {
	var l []api.Node
	for i := range n {
		l = append(l, dir(fmt.Sprintf("d%05d", i)))
	}
	return l
}

// great has as many nodes as there may be, each one as long as it may be.
func great(data string) []api.Node {
	var l []api.Node
	for i := range api.MaxNodes {
		l = append(l, of(far, linked(fmt.Sprintf("%s%02d", xs(398), i), 1, strings.Repeat(data, 2000))))
	}
	return l
}

// trees are trees that may be.
func trees() [][]api.Node {
	return [][]api.Node{
		nil, {}, sample(), wide(1), wide(39), wide(40), great("x"), great("\x00"), {file("d00003", "")}, {sym("s", xs(400))}, {linked("a", 1, ""), linked("b", 1, "")},
		{dir("a"), dir("a/b"), dir("a/b/c"), file("a/b/c/d", "x"), dir("ab")}, {of(far, file(xs(400), xs(2000)))}, {linked("a", math.MaxInt, "")},
	}
}

// wrong is a list that is no tree, with its error.
type wrong struct {
	l   []api.Node
	err api.Errno
}

// wrongs are lists that are no trees.
func wrongs() []wrong {
	return []wrong{
		{wide(41), api.ErrSize}, {make([]api.Node, 1000), api.ErrSize}, {[]api.Node{{}}, api.ErrSize}, {[]api.Node{file("a", xs(2001))}, api.ErrSize},
		{[]api.Node{sym("a", xs(401))}, api.ErrSize}, {[]api.Node{dir(xs(401))}, api.ErrSize},
		{[]api.Node{{Path: "a"}}, api.ErrKind}, {[]api.Node{{Path: "a", Kind: api.Link, Target: "b"}}, api.ErrKind},
		{[]api.Node{sym("a", "")}, api.ErrForm}, {[]api.Node{linked("a", -1, "")}, api.ErrForm}, {[]api.Node{dir("a\x00")}, api.ErrForm},
		{[]api.Node{dir("a/")}, api.ErrPath}, {[]api.Node{dir("..")}, api.ErrPath},
		{[]api.Node{of(api.Meta{Mode: -1}, dir("a"))}, api.ErrRange}, {[]api.Node{of(api.Meta{Nano: 1000000000}, dir("a"))}, api.ErrRange},
		{[]api.Node{dir("b"), dir("a")}, api.ErrTwice}, {[]api.Node{dir("a"), dir("a")}, api.ErrTwice}, {[]api.Node{dir("a-b"), dir("a"), dir("a/b")}, api.ErrTwice},
		{[]api.Node{file("a/b", "")}, api.ErrUp}, {[]api.Node{file("a", ""), file("a/b", "")}, api.ErrUp},
		{[]api.Node{linked("a", 1, "x"), linked("b", 1, "y")}, api.ErrLink}, {[]api.Node{linked("a", 1, ""), of(owner, linked("b", 1, ""))}, api.ErrLink},
	}
}

// told is a node in a few words, in which an empty list of bytes is like none.
func told(n api.Node) string {
	s := fmt.Sprintf("%q%d", n.Path, n.Kind)
	if n.Same != 0 {
		s += fmt.Sprintf("=%d", n.Same)
	}
	if n.Target != "" {
		s += fmt.Sprintf(">%q", n.Target)
	}
	if n.Meta != (api.Meta{}) {
		s += fmt.Sprintf("(%q)", fmt.Sprint(n.Meta))
	}
	if len(n.Data) > 0 {
		s += fmt.Sprintf(":%q", n.Data)
	}
	return s + " "
}

// said is a list of nodes in one line, and changesSaid one of changes.
func said(l []api.Node) string {
	var s strings.Builder
	for _, n := range l {
		s.WriteString(told(n))
	}
	return s.String()
}

func changesSaid(l []api.Change) string {
	var s strings.Builder
	for _, c := range l {
		fmt.Fprintf(&s, "%d %s", c.Kind, told(c.Node))
	}
	return s.String()
}

func wantOf(t *testing.T, a, b []api.Node, want []api.Change, wantErr api.Errno) {
	t.Helper()
	if got, err := Of(a, b); changesSaid(got) != changesSaid(want) || err != wantErr {
		t.Errorf("Of(%.300q, %.300q): %.500q, %d; want %.500q, %d", said(a), said(b), changesSaid(got), err, changesSaid(want), wantErr)
	}
}

func wantApply(t *testing.T, l []api.Node, changes []api.Change, want []api.Node, wantErr api.Errno) {
	t.Helper()
	if got, err := Apply(l, changes); said(got) != said(want) || err != wantErr {
		t.Errorf("Apply(%.300q, %.300q): %.500q, %d; want %.500q, %d", said(l), changesSaid(changes), said(got), err, said(want), wantErr)
	}
}

// wantAlike asks both ways.
func wantAlike(t *testing.T, a, b []api.Node, want bool, wantErr api.Errno) {
	t.Helper()
	for range 2 {
		if got, err := Alike(a, b); got != want || err != wantErr {
			t.Errorf("Alike(%.300q, %.300q): %t, %d; want %t, %d", said(a), said(b), got, err, want, wantErr)
		}
		a, b = b, a
	}
}

// P22.1
func TestOf(t *testing.T) {
	l := sample()
	wantOf(t, l, slices.Delete(sample(), 3, 5), []api.Change{gone(l[3]), gone(l[4])}, api.OK)
	wantOf(t, slices.Delete(sample(), 3, 5), l, []api.Change{fresh(l[3]), fresh(l[4])}, api.OK)
	wantOf(t, l[:6], l[6:], []api.Change{
		gone(l[0]), gone(l[1]), gone(l[2]), gone(l[3]), gone(l[4]), gone(l[5]), fresh(l[6]), fresh(l[7]), fresh(l[8]), fresh(l[9]),
	}, api.OK)
	wantOf(t, l[6:], l[:6], []api.Change{
		fresh(l[0]), fresh(l[1]), fresh(l[2]), fresh(l[3]), fresh(l[4]), fresh(l[5]), gone(l[6]), gone(l[7]), gone(l[8]), gone(l[9]),
	}, api.OK)
	wantOf(t, []api.Node{dir("a"), file("a/z", "1"), dir("a-b"), file("b", "x"), dir("d")}, []api.Node{dir("a"), file("a/y", "2"), file("a.b", ""), file("b", "y"), dir("c")},
		[]api.Change{fresh(file("a/y", "2")), gone(file("a/z", "1")), gone(dir("a-b")), fresh(file("a.b", "")), other(file("b", "y")), fresh(dir("c")), gone(dir("d"))}, api.OK)
	wantOf(t, []api.Node{dir("a"), file("a/b", "")}, []api.Node{file("a", "x")}, []api.Change{other(file("a", "x")), gone(file("a/b", ""))}, api.OK)
	wantOf(t, []api.Node{file("a", "x")}, []api.Node{dir("a"), file("a/b", "")}, []api.Change{other(dir("a")), fresh(file("a/b", ""))}, api.OK)
}

// P22.1: a tree and itself have no changes, and the empty tree and another one all of its nodes.
func TestOfWhole(t *testing.T) {
	for _, l := range trees() {
		var all, none []api.Change
		for _, n := range l {
			all = append(all, fresh(n))
			none = append(none, gone(n))
		}
		wantOf(t, l, tree.Copy(l), nil, api.OK)
		wantOf(t, nil, l, all, api.OK)
		wantOf(t, []api.Node{}, l, all, api.OK)
		wantOf(t, l, nil, none, api.OK)
	}
}

// versions are nodes with one path that all differ, each one from the first one in one field, or in as few as there can be.
func versions() []api.Node {
	l := []api.Node{
		of(owner, file("a", "x")), of(owner, file("a", "y")), of(owner, file("a", "x\x00")), of(owner, file("a", "")), of(owner, linked("a", 1, "x")), of(owner, linked("a", 2, "x")),
		of(owner, dir("a")), of(owner, sym("a", "x")), of(owner, sym("a", "y")), of(owner, sym("a", "x/")), dir("a"),
	}
	for _, change := range []func(*api.Meta){
		func(m *api.Meta) { m.Mode++ },
		func(m *api.Meta) { m.UID++ },
		func(m *api.Meta) { m.GID++ },
		func(m *api.Meta) { m.User += "x" },
		func(m *api.Meta) { m.Group = "" },
		func(m *api.Meta) { m.Second = -m.Second },
		func(m *api.Meta) { m.Nano++ },
	} {
		for _, n := range []api.Node{l[0], l[6], l[7]} {
			change(&n.Meta)
			l = append(l, n)
		}
	}
	return l
}

// P22.1: a difference in any field is a change.
func TestOfFields(t *testing.T) {
	all := versions()
	for i, before := range all {
		for j, after := range all {
			var want []api.Change
			if i != j {
				want = []api.Change{other(after)}
			}
			wantOf(t, []api.Node{before}, tree.Copy([]api.Node{after}), want, api.OK)
			wantOf(t, []api.Node{dir("0"), before, dir("b")}, []api.Node{dir("0"), after, dir("b")}, want, api.OK)
		}
	}
	wantOf(t, []api.Node{linked("a", 7, ""), linked("b", 7, "")}, []api.Node{linked("a", 8, ""), linked("b", 8, "")}, []api.Change{other(linked("a", 8, "")), other(linked("b", 8, ""))}, api.OK)
}

// P22.1: a list of data without elements may be nil or not.
func TestOfEmptyData(t *testing.T) {
	for _, kind := range []api.Node{file("a", ""), dir("a"), sym("a", "b")} {
		one, other := kind, kind
		one.Data, other.Data = nil, []byte{}
		wantOf(t, []api.Node{one}, []api.Node{other}, nil, api.OK)
		wantOf(t, []api.Node{other}, []api.Node{one}, nil, api.OK)
		wantAlike(t, []api.Node{one}, []api.Node{other}, true, api.OK)
	}
}

// P22.1 and P22.3: errors of the first tree, then of the second one.
func TestWrong(t *testing.T) {
	for _, a := range wrongs() {
		for _, l := range trees() {
			wantOf(t, a.l, l, nil, a.err)
			wantOf(t, l, a.l, nil, a.err)
			wantAlike(t, a.l, l, false, a.err)
		}
		for _, b := range wrongs() {
			wantOf(t, a.l, b.l, nil, a.err)
			if got, err := Alike(a.l, b.l); got || err != a.err {
				t.Errorf("Alike(%.300q, %.300q): %t, %d; want %d", said(a.l), said(b.l), got, err, a.err)
			}
		}
	}
}

// P22.2
func TestApply(t *testing.T) {
	l := sample()
	wantApply(t, l, nil, l, api.OK)
	wantApply(t, l, []api.Change{}, l, api.OK)
	wantApply(t, nil, nil, nil, api.OK)
	wantApply(t, l, []api.Change{lost("a-b"), lost("a/c/e")}, slices.Concat(l[:4], l[5:6], l[7:]), api.OK)
	wantApply(t, l, []api.Change{fresh(of(owner, dir("ab"))), fresh(linked("a/c/0", 3, "")), fresh(file("d", "x")), fresh(sym("A", "x"))}, slices.Concat(
		[]api.Node{sym("A", "x")}, l[:3], []api.Node{linked("a/c/0", 3, "")}, l[3:7], []api.Node{of(owner, dir("ab"))}, l[7:], []api.Node{file("d", "x")}), api.OK)
	wantApply(t, l, []api.Change{other(sym("b", "a")), other(of(far, linked("a/c/e", 8, "x"))), other(l[2])}, slices.Concat(
		l[:4], []api.Node{of(far, linked("a/c/e", 8, "x"))}, l[5:7], []api.Node{sym("b", "a")}, l[8:]), api.OK)
	wantApply(t, nil, []api.Change{fresh(l[8]), fresh(l[2]), fresh(l[0])}, []api.Node{l[0], l[2], l[8]}, api.OK)
	wantApply(t, []api.Node{dir("a")}, []api.Change{fresh(dir("a-b")), fresh(dir("a!")), fresh(dir("ab")), fresh(dir("a/b"))},
		[]api.Node{dir("a"), dir("a/b"), dir("a!"), dir("a-b"), dir("ab")}, api.OK)
	wantApply(t, nil, []api.Change{fresh(file("a", "1"))}, []api.Node{file("a", "1")}, api.OK)
	wantApply(t, wide(40), nil, wide(40), api.OK)
}

// P22.2: each change is performed on what the one ahead of it made.
func TestApplyOneByOne(t *testing.T) {
	one, two := file("a", "1"), of(owner, sym("a", "2"))
	wantApply(t, nil, []api.Change{fresh(one), other(two), gone(one), fresh(two), other(one)}, []api.Node{one}, api.OK)
	wantApply(t, []api.Node{one}, []api.Change{lost("a"), fresh(two)}, []api.Node{two}, api.OK)
	wantApply(t, []api.Node{one}, []api.Change{other(two), other(one), other(two)}, []api.Node{two}, api.OK)
	wantApply(t, []api.Node{one}, []api.Change{lost("a"), lost("a")}, nil, api.ErrNone)
	wantApply(t, []api.Node{one}, []api.Change{lost("a"), other(two)}, nil, api.ErrNone)
	wantApply(t, []api.Node{one}, []api.Change{lost("a"), fresh(two), fresh(one)}, nil, api.ErrTwice)
	wantApply(t, nil, []api.Change{fresh(one), fresh(two)}, nil, api.ErrTwice)
	wantApply(t, nil, []api.Change{fresh(one), other(two), fresh(one)}, nil, api.ErrTwice)
	wantApply(t, nil, []api.Change{other(one), fresh(one)}, nil, api.ErrNone)
}

// P22.2: of a Gone only the path counts.
func TestApplyGone(t *testing.T) {
	l := []api.Node{dir("a"), of(owner, file("a/b", "x")), sym("c", "a")}
	for _, n := range []api.Node{l[1], file("a/b", ""), {Path: "a/b"}, {Path: "a/b", Kind: -7, Same: -1, Target: "\x00", Meta: api.Meta{Mode: -1}, Data: make([]byte, 5000)}} {
		wantApply(t, l, []api.Change{gone(n)}, []api.Node{l[0], l[2]}, api.OK)
	}
}

// P22.2: what is in a directory does not go with it.
func TestApplyGoneDir(t *testing.T) {
	l := []api.Node{dir("a"), dir("a/b"), file("a/b/c", "x"), file("a/d", "y"), dir("b")}
	wantApply(t, l, []api.Change{lost("a")}, nil, api.ErrUp)
	wantApply(t, l, []api.Change{lost("a/b")}, nil, api.ErrUp)
	wantApply(t, l, []api.Change{lost("a/b"), lost("a/b/c")}, []api.Node{l[0], l[3], l[4]}, api.OK)
	wantApply(t, l, []api.Change{lost("a"), lost("a/b"), lost("a/b/c"), lost("a/d")}, l[4:], api.OK)
	wantApply(t, l, []api.Change{lost("a/b"), fresh(of(owner, dir("a/b")))}, slices.Concat(l[:1], []api.Node{of(owner, dir("a/b"))}, l[2:]), api.OK)
	wantApply(t, l, []api.Change{lost("b"), fresh(dir("b/a")), fresh(dir("b"))}, slices.Concat(l, []api.Node{dir("b/a")}), api.OK)
	wantApply(t, l, []api.Change{other(file("a/b", ""))}, nil, api.ErrUp)
	wantApply(t, l, []api.Change{other(sym("a/b", "d")), lost("a/b/c")}, []api.Node{l[0], sym("a/b", "d"), l[3], l[4]}, api.OK)
}

// P22.2: a kind that is none, which is checked before the path is.
func TestApplyKind(t *testing.T) {
	for _, kind := range []int{math.MinInt, -1 << 32, -1, 0, 4, 5, 6, 7, 1<<32 + 1, math.MaxInt} {
		for _, s := range []string{"a", "a/b", "z", "", "a//", xs(500)} {
			c := api.Change{Kind: kind, Node: file(s, "x")}
			wantApply(t, sample(), []api.Change{c}, nil, api.ErrKind)
			wantApply(t, nil, []api.Change{c}, nil, api.ErrKind)
			wantApply(t, sample(), []api.Change{lost("b"), c, lost("b")}, nil, api.ErrKind)
		}
	}
}

// P22.2: a path that is not there, or is there.
func TestApplyPaths(t *testing.T) {
	l := sample()
	for _, s := range []string{"", "/", ".", "..", "a/", "/a", "a//b", "A", "a/c/g", "a/b/c", "a-", "d", "a\x00", "\xff", xs(400), xs(401), xs(1 << 20)} {
		for _, list := range [][]api.Node{l, nil, wide(40)} {
			wantApply(t, list, []api.Change{lost(s)}, nil, api.ErrNone)
			wantApply(t, list, []api.Change{other(file(s, "x"))}, nil, api.ErrNone)
			wantApply(t, list, []api.Change{other(api.Node{Path: s, Kind: -1})}, nil, api.ErrNone)
		}
	}
	for _, n := range l {
		wantApply(t, l, []api.Change{fresh(n)}, nil, api.ErrTwice)
		wantApply(t, l, []api.Change{fresh(api.Node{Path: strings.Clone(n.Path), Kind: -1})}, nil, api.ErrTwice)
	}
}

// P22.2: the first error counts: of the tree, then of each change in order, and then of the result.
func TestApplyOrder(t *testing.T) {
	kind, none, twice, form := api.Change{Kind: 9}, lost("z"), fresh(dir("a")), other(sym("a", ""))
	errs := []api.Errno{api.ErrKind, api.ErrNone, api.ErrTwice}
	for i, first := range []api.Change{kind, none, twice} {
		for _, later := range []api.Change{kind, none, twice, form} {
			wantApply(t, []api.Node{dir("a")}, []api.Change{first, later}, nil, errs[i])
			wantApply(t, []api.Node{dir("a")}, []api.Change{form, first, later}, nil, errs[i])
		}
		for _, w := range wrongs() {
			wantApply(t, w.l, []api.Change{first}, nil, w.err)
		}
	}
	wantApply(t, []api.Node{dir("a")}, []api.Change{form}, nil, api.ErrForm)
	wantApply(t, []api.Node{dir("a")}, []api.Change{fresh(dir("")), none}, nil, api.ErrNone)
}

// P22.2: a list that is no tree is not made one by changes, but one that is none only in between is.
func TestApplyWrong(t *testing.T) {
	for _, w := range wrongs() {
		wantApply(t, w.l, nil, nil, w.err)
		var all []api.Change
		for _, n := range w.l {
			all = append(all, lost(n.Path))
		}
		wantApply(t, w.l, all, nil, w.err)
		if w.err == api.ErrTwice {
			continue
		}
		made := slices.Clone(all)
		for i, n := range w.l {
			made[i].Kind, made[i].Node = api.New, n
		}
		if len(w.l) == 1000 {
			wantApply(t, nil, made, nil, api.ErrTwice)
			continue
		}
		wantApply(t, nil, made, nil, w.err)
		wantApply(t, []api.Node{file("z", "x")}, slices.Concat(made, all), []api.Node{file("z", "x")}, api.OK)
		wantApply(t, nil, slices.Concat(made, all, []api.Change{fresh(sym("\xff", "x"))}), []api.Node{sym("\xff", "x")}, api.OK)
	}
}

// P22.2: files of one number, before, in between and after the changes.
func TestApplySame(t *testing.T) {
	l := []api.Node{linked("a", 4, "x"), linked("b", 4, "x"), file("c", "x")}
	wantApply(t, l, []api.Change{other(linked("a", 4, "y"))}, nil, api.ErrLink)
	wantApply(t, l, []api.Change{other(linked("a", 4, "y")), other(linked("b", 4, "y"))}, []api.Node{linked("a", 4, "y"), linked("b", 4, "y"), l[2]}, api.OK)
	wantApply(t, l, []api.Change{lost("a")}, l[1:], api.OK)
	wantApply(t, l, []api.Change{other(linked("c", 4, "x"))}, []api.Node{l[0], l[1], linked("c", 4, "x")}, api.OK)
	wantApply(t, l, []api.Change{fresh(of(owner, linked("d", 4, "x")))}, nil, api.ErrLink)
}

// P22.2: the number of nodes counts at the end alone.
func TestApplyMany(t *testing.T) {
	for n := range 45 {
		var all, back []api.Change
		for _, x := range wide(n) {
			all = append(all, fresh(x))
			back = append(back, gone(x))
		}
		slices.Reverse(all)
		want, wantErr := wide(n), api.OK
		if n > 40 {
			want, wantErr = nil, api.ErrSize
		}
		wantApply(t, nil, all, want, wantErr)
		wantApply(t, []api.Node{dir("a")}, slices.Concat(all, back), []api.Node{dir("a")}, api.OK)
		if n > 5 {
			wantApply(t, nil, append(all, back[:5]...), wide(n)[5:], api.OK)
		}
	}
	wantApply(t, wide(40), []api.Change{fresh(dir("e")), lost("d00000")}, append(wide(40)[1:], dir("e")), api.OK)
	wantApply(t, wide(40), []api.Change{fresh(dir("e"))}, nil, api.ErrSize)
}

// P22.3
func TestAlike(t *testing.T) {
	all := trees()
	all[1] = []api.Node{dir("other")}
	for i, a := range all {
		for j, b := range all {
			wantAlike(t, a, tree.Copy(b), i == j, api.OK)
		}
	}
	wantAlike(t, nil, []api.Node{}, true, api.OK)
	l := sample()
	for i := range l {
		if l[i].Kind == api.Dir {
			continue
		}
		wantAlike(t, l, slices.Delete(sample(), i, i+1), false, api.OK)
		changed := sample()
		changed[i] = sym(l[i].Path, "x")
		wantAlike(t, l, changed, false, api.OK)
	}
	wantAlike(t, []api.Node{dir("a"), dir("b")}, []api.Node{dir("a"), dir("c")}, false, api.OK)
	wantAlike(t, []api.Node{dir("a"), dir("b")}, []api.Node{dir("a")}, false, api.OK)
}

// P22.3: a difference in any field counts, but for one in the numbers of files.
func TestAlikeFields(t *testing.T) {
	all := versions()
	for i, a := range all {
		for j, b := range all {
			a.Same, b.Same = 0, 0
			wantAlike(t, []api.Node{dir("0"), all[i], dir("b")}, []api.Node{dir("0"), all[j], dir("b")}, i == j || told(a) == told(b), api.OK)
		}
	}
}

// P22.3: which files are the same counts, and the numbers do not.
func TestAlikeSame(t *testing.T) {
	numbered := func(l ...int) []api.Node {
		var nodes []api.Node
		for i, same := range l {
			nodes = append(nodes, linked(string(rune('a'+i)), same, "x"))
		}
		return nodes
	}
	// The trees of one row are alike.
	rows := [][][]api.Node{
		{numbered(0, 0, 0, 0), numbered(5, 0, 6, 0), numbered(4, 3, 2, 1), numbered(1, 2, 3, 4), numbered(0, 0, 0, math.MaxInt)},
		{numbered(1, 1, 0, 0), numbered(7, 7, 0, 0), numbered(1, 1, 2, 3), numbered(9, 9, 0, 1)},
		{numbered(1, 0, 1, 0), numbered(2, 0, 2, 0), numbered(3, 2, 3, 1)},
		{numbered(0, 1, 1, 0), numbered(0, 2, 2, 0), numbered(1, 7, 7, 2)},
		{numbered(1, 1, 1, 0), numbered(3, 3, 3, 1)},
		{numbered(1, 1, 2, 2), numbered(2, 2, 1, 1), numbered(1, 1, 3, 3), numbered(math.MaxInt, math.MaxInt, 4, 4)},
		{numbered(1, 2, 2, 1), numbered(2, 1, 1, 2)},
		{numbered(1, 2, 1, 2), numbered(5, 4, 5, 4)},
		{numbered(1, 1, 1, 1), numbered(math.MaxInt, math.MaxInt, math.MaxInt, math.MaxInt)},
	}
	for i, one := range rows {
		for j, other := range rows {
			for _, a := range one {
				for _, b := range other {
					wantAlike(t, a, b, i == j, api.OK)
				}
			}
		}
	}
}

// before tells by the parts of paths whether one is before another one.
func before(a, b string) bool {
	return slices.Compare(strings.Split(a, "/"), strings.Split(b, "/")) < 0
}

func at(l []api.Node, s string) int {
	return slices.IndexFunc(l, func(n api.Node) bool { return n.Path == s })
}

// ofByWords is what Of returns by the words of P22.1, for trees.
func ofByWords(a, b []api.Node) []api.Change {
	var l []api.Change
	for _, n := range a {
		if i := at(b, n.Path); i < 0 {
			l = append(l, gone(n))
		} else if told(n) != told(b[i]) {
			l = append(l, other(b[i]))
		}
	}
	for _, n := range b {
		if at(a, n.Path) < 0 {
			l = append(l, fresh(n))
		}
	}
	slices.SortFunc(l, func(c, d api.Change) int {
		if before(c.Node.Path, d.Node.Path) {
			return -1
		}
		return 1
	})
	return l
}

// applyByWords is what Apply returns by the words of P22.2, for a tree.
func applyByWords(t []api.Node, changes []api.Change) ([]api.Node, api.Errno) {
	l := slices.Clone(t)
	for _, c := range changes {
		i := at(l, c.Node.Path)
		switch {
		case c.Kind < 1 || c.Kind > 3:
			return nil, api.ErrKind
		case c.Kind != api.New && i < 0:
			return nil, api.ErrNone
		case c.Kind == api.New && i >= 0:
			return nil, api.ErrTwice
		case c.Kind == api.Gone:
			l = slices.Delete(l, i, i+1)
		case c.Kind == api.Other:
			l[i] = c.Node
		default:
			next := slices.IndexFunc(l, func(n api.Node) bool { return before(c.Node.Path, n.Path) })
			if next < 0 {
				next = len(l)
			}
			l = slices.Insert(l, next, c.Node)
		}
	}
	if err := tree.Check(l); err != api.OK {
		return nil, err
	}
	return l, api.OK
}

// alikeByWords is what Alike returns by the words of P22.3, for trees.
func alikeByWords(a, b []api.Node) bool {
	isOne := func(l []api.Node, i, j int) bool { return i == j || l[i].Same > 0 && l[i].Same == l[j].Same }
	for i := range a {
		if len(a) != len(b) {
			return false
		}
		one, other := a[i], b[i]
		one.Same, other.Same = 0, 0
		if told(one) != told(other) {
			return false
		}
		for j := range a {
			if isOne(a, i, j) != isOne(b, i, j) {
				return false
			}
		}
	}
	return len(a) == len(b)
}

// randomNode is a node of a few names, in which files of one number are mostly the same.
func randomNode(random *rand.Rand) api.Node {
	names := []string{"a", "b", "a-b", "\xff", strings.Repeat("é", 45)}
	s := names[random.Intn(len(names))]
	for random.Intn(2) == 0 {
		s += "/" + names[random.Intn(len(names))]
	}
	same := random.Intn(6)
	n := linked(s, same, fmt.Sprint(same%3))
	n.Meta.UID = same % 2
	return []api.Node{dir(s), of(owner, dir(s)), dir(s), sym(s, "a"), n, n}[random.Intn(6)]
}

func randomTree(random *rand.Rand, size int) []api.Node {
	var l []api.Node
	for range size {
		if next, err := tree.Put(l, randomNode(random)); err == api.OK {
			l = next
		}
	}
	return l
}

// P22.1 to P22.3: random trees, and the changes from one to the other, which make the other one of the first one.
func TestRandom(t *testing.T) {
	random := rand.New(rand.NewSource(22))
	counts := map[int]int{}
	for range 1500 {
		a, b := randomTree(random, random.Intn(120)), randomTree(random, random.Intn(120))
		changes := ofByWords(a, b)
		for _, c := range changes {
			counts[c.Kind]++
		}
		wantOf(t, a, b, changes, api.OK)
		wantApply(t, a, changes, b, api.OK)
		random.Shuffle(len(changes), func(i, j int) { changes[i], changes[j] = changes[j], changes[i] })
		wantApply(t, a, changes, b, api.OK)
		wantAlike(t, a, b, alikeByWords(a, b), api.OK)
	}
	for _, kind := range []int{api.Gone, api.New, api.Other} {
		if counts[kind] < 3000 {
			t.Errorf("there are few changes of a kind: %v", counts)
		}
	}
}

// P22.2: random changes, of which some can't be performed, and some make no tree.
func TestRandomChanges(t *testing.T) {
	random := rand.New(rand.NewSource(222))
	counts := map[api.Errno]int{}
	for range 20000 {
		l := randomTree(random, random.Intn(40))
		var changes []api.Change
		for range random.Intn(6) {
			n := randomNode(random)
			if len(l) > 0 && random.Intn(2) == 0 {
				n.Path = l[random.Intn(len(l))].Path
			}
			switch random.Intn(20) {
			case 0:
				n.Path += "/"
			case 1, 2, 3, 4, 5, 6, 7, 8:
				n.Meta.UID = 2
			}
			kind := 1 + random.Intn(3)
			if found := at(l, n.Path) >= 0; found == (kind == api.New) && random.Intn(4) > 0 {
				continue
			}
			if random.Intn(100) == 0 {
				kind = 4
			}
			changes = append(changes, api.Change{Kind: kind, Node: n})
		}
		want, wantErr := applyByWords(l, changes)
		wantApply(t, l, changes, want, wantErr)
		counts[wantErr]++
	}
	for _, err := range []api.Errno{api.OK, api.ErrKind, api.ErrNone, api.ErrTwice, api.ErrUp, api.ErrLink, api.ErrPath} {
		if counts[err] < 50 {
			t.Errorf("there are few results of an error: %v", counts)
		}
	}
}

// P22.3: random numbers of files in one tree.
func TestRandomSame(t *testing.T) {
	random := rand.New(rand.NewSource(2222))
	counts := map[bool]int{}
	for range 5000 {
		size := 1 + random.Intn(4)
		lists := [2][]api.Node{}
		for k := range lists {
			for i := range size {
				lists[k] = append(lists[k], linked(fmt.Sprint(i), random.Intn(4), "x"))
			}
		}
		is := alikeByWords(lists[0], lists[1])
		wantAlike(t, lists[0], lists[1], is, api.OK)
		counts[is]++
	}
	if counts[true] < 500 || counts[false] < 500 {
		t.Errorf("the trees are too much alike: %v", counts)
	}
}

// crowded is a tree at the start of a longer list, with something in the unused capacity of all lists. One list is the data
// of all files.
func crowded() []api.Node {
	data := append(make([]byte, 0, 64), "one, and what is behind it"...)
	l := append(sample(), file("0", ""), dir("z"))
	for i := range l {
		if l[i].Kind == api.File {
			l[i].Meta = owner
			l[i].Data = data[:3]
		}
	}
	return l[:len(sample())]
}

// crowdedChanges are such a list of changes, which can be performed on it. The data of its files is one list too.
func crowdedChanges() []api.Change {
	data := append(make([]byte, 0, 64), "two, and what is behind it"...)
	l := []api.Change{fresh(file("a/a", "")), other(of(owner, file("b", ""))), lost("a-b"), fresh(of(owner, sym("s", "target"))), fresh(file("x", "")), lost("y")}
	for i := range l {
		l[i].Node.Data = data[:3]
	}
	l[3].Node.Data = nil
	return l[:len(l)-1]
}

// room is all of a list, up to its capacity, and all of the lists in it; a later change of the list does not change it.
func room(l []api.Node) string {
	s := ""
	for _, n := range l[:cap(l)] {
		s += fmt.Sprintf("%q %q ", fmt.Sprint(n), n.Data[:cap(n.Data)])
	}
	return s
}

func roomOfChanges(l []api.Change) string {
	s := ""
	for _, c := range l[:cap(l)] {
		s += fmt.Sprint(c.Kind, " ", room([]api.Node{c.Node}))
	}
	return s
}

// scribble changes all that can be changed in a list, up to its capacity.
func scribble(l []api.Node) {
	for i, n := range l[:cap(l)] {
		for j := range n.Data[:cap(n.Data)] {
			n.Data[:cap(n.Data)][j]++
		}
		l[:cap(l)][i] = api.Node{Path: "!"}
	}
}

func scribbleChanges(l []api.Change) {
	for i, c := range l[:cap(l)] {
		scribble([]api.Node{c.Node})
		l[:cap(l)][i] = api.Change{}
	}
}

// P22.1 to P22.3: arguments are not changed, whether they are valid or not.
func TestArguments(t *testing.T) {
	for _, l := range [][]api.Node{crowded(), crowded()[1:], crowded()[:5], crowded()[:len(crowded())+1], wide(41)} {
		others, changes := crowded(), crowdedChanges()
		wants := []string{room(l), room(others), roomOfChanges(changes)}
		for _, c := range [][]api.Change{changes, changes[1:], changes[:2], append(slices.Clone(changes), lost("y"))} {
			Apply(l, c)
		}
		for _, b := range [][]api.Node{others, others[1:], others[:5], nil} {
			Of(l, b)
			Of(b, l)
			Alike(l, b)
			Alike(b, l)
		}
		if !slices.Equal(wants, []string{room(l), room(others), roomOfChanges(changes)}) {
			t.Errorf("an argument was changed: %.300q", said(l))
		}
	}
}

// nodesOf are the nodes of all changes.
func nodesOf(l []api.Change) []api.Node {
	var nodes []api.Node
	for _, c := range l {
		nodes = append(nodes, c.Node)
	}
	return nodes
}

// wantApart wants that no two nodes have one list of data.
func wantApart(t *testing.T, l []api.Node) {
	t.Helper()
	for i, n := range l {
		rest := slices.Clip(slices.Delete(slices.Clone(l), i, i+1))
		before := room(rest)
		scribble([]api.Node{n})
		if room(rest) != before {
			t.Errorf("the data of node %d is that of another node too", i)
		}
	}
}

// P22.1: the changes share nothing with the trees or other changes.
func TestMemoryOfChanges(t *testing.T) {
	lists := func() ([]api.Node, []api.Node) {
		a, b := crowded(), crowded()
		b[1], b[3], b[9] = of(far, file("a/b", "")), of(far, file("a/c/d", "")), of(far, file("c/a", ""))
		for _, i := range []int{1, 3, 9} {
			b[i].Data = b[4].Data
		}
		return slices.Concat(a[:4], a[6:]), b
	}
	for _, from := range [][2]int{{0, 1}, {1, 0}} {
		a, b := lists()
		both := [][]api.Node{a, b}
		one, err := Of(both[from[0]], both[from[1]])
		another, _ := Of(both[from[0]], both[from[1]])
		if err != api.OK || len(one) != 5 {
			t.Fatalf("Of: %q, %d", changesSaid(one), err)
		}
		whole := roomOfChanges(one)
		scribbleChanges(another)
		scribble(a)
		scribble(b)
		if roomOfChanges(one) != whole {
			t.Error("changes share memory with a tree or with other ones")
		}
		wantApart(t, nodesOf(one))
	}
}

// P22.2: the result shares nothing with the tree, the changes or another result.
func TestMemory(t *testing.T) {
	for _, empty := range []bool{false, true} {
		l, changes := crowded(), crowdedChanges()
		if empty {
			changes = changes[:0]
		}
		one, err := Apply(l, changes)
		another, _ := Apply(l, changes)
		if err != api.OK || len(one) < 10 {
			t.Fatalf("Apply: %q, %d", said(one), err)
		}
		whole := room(one)
		scribble(another)
		scribble(l)
		scribbleChanges(changes)
		if room(one) != whole {
			t.Error("a result shares memory with an argument or another result")
		}
		wantApart(t, one)
	}
}

// P22.1 and P22.2: strings are copied, so that no result keeps a longer string in memory of which one is a part.
func TestMemoryOfStrings(t *testing.T) {
	l, changes := crowded(), crowdedChanges()
	strs := func(n api.Node) []string { return []string{n.Path, n.Target, n.Meta.User, n.Meta.Group} }
	seen := map[*byte]bool{}
	for _, n := range append(nodesOf(changes), l...) {
		for _, s := range strs(n) {
			if s != "" {
				seen[unsafe.StringData(s)] = true
			}
		}
	}
	applied, _ := Apply(l, changes)
	away, _ := Of(l, nil)
	back, _ := Of(nil, l)
	otherwise, _ := Of(l, applied)
	for k, nodes := range [][]api.Node{applied, nodesOf(away), nodesOf(back), nodesOf(otherwise)} {
		if len(nodes) == 0 {
			t.Errorf("result %d is empty", k)
		}
		for _, n := range nodes {
			for _, s := range strs(n) {
				if s != "" && seen[unsafe.StringData(s)] {
					t.Errorf("result %d has the string %q of an argument", k, s)
				}
			}
		}
	}
}

// P22.1 to P22.3: no argument takes long.
func TestLong(t *testing.T) {
	begin := time.Now()
	for range 100 {
		wantOf(t, great("x"), great("y"), ofByWords(great("x"), great("y")), api.OK)
		wantAlike(t, great("x"), great("y"), false, api.OK)
	}
	wantOf(t, make([]api.Node, 1<<20), nil, nil, api.ErrSize)
	wantAlike(t, nil, make([]api.Node, 1<<20), false, api.ErrSize)
	wantApply(t, make([]api.Node, 1<<20), nil, nil, api.ErrSize)
	var changes []api.Change
	for i := range 200000 {
		changes = append(changes, fresh(dir(fmt.Sprintf("d%06d", 199999-i))))
	}
	wantApply(t, []api.Node{dir("a")}, changes, nil, api.ErrSize)
	for i := range 200000 {
		changes = append(changes, other(sym(fmt.Sprintf("d%06d", i), "x")), lost(fmt.Sprintf("d%06d", i)))
	}
	wantApply(t, []api.Node{dir("a")}, changes, []api.Node{dir("a")}, api.OK)
	if d := time.Since(begin); d > 20*time.Second {
		t.Errorf("it took %s", d)
	}
}
