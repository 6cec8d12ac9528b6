package order

import (
	"bytes"
	"fmt"
	"math"
	"math/rand"
	"reflect"
	"slices"
	"strings"
	"testing"
	"unsafe"

	"creel/api"
	"creel/tree"
)

func dir(s string) api.Node { return api.Node{Path: s, Kind: api.Dir} }

func sym(s string) api.Node { return api.Node{Path: s, Kind: api.Sym, Target: "a"} }

func file(s, data string) api.Node { return api.Node{Path: s, Kind: api.File, Data: []byte(data)} }

// linked is one of the files that are the same.
func linked(s string, same int, data string) api.Node {
	return api.Node{Path: s, Kind: api.File, Same: same, Data: []byte(data)}
}

// sample is a tree in which many paths begin alike.
func sample() []api.Node {
	return []api.Node{
		file("A", "x"), dir("a"), dir("a/b"), file("a/b/c", "x"), dir("a/b/d"), linked("a/b/d/a", 1, "y"), sym("a/b/e"), file("a/b-", ""), dir("a/bb"),
		dir("a/c"), file("a/c/b", ""), file("a!", ""), dir("a-b"), linked("a-b/c", 1, "y"), file("a-b/\xff", ""), sym("aa"), dir("b"), dir("é"), file("é/a", ""),
	}
}

// wide has n directories at its top.
func wide(n int) []api.Node {
	var l []api.Node
	for i := range n {
		l = append(l, dir(fmt.Sprintf("d%05d", i)))
	}
	return l
}

// deep has n directories, each one in the one ahead of it.
func deep(n int) []api.Node {
	var l []api.Node
	for i := range n {
		l = append(l, dir("a"+strings.Repeat("/a", i)))
	}
	return l
}

func pathsOf(l []api.Node) []string {
	var paths []string
	for _, n := range l {
		paths = append(paths, n.Path)
	}
	return paths
}

// said is a list in one line, with every byte that is no text escaped.
func said(l []api.Node) string { return fmt.Sprintf("%.500q", fmt.Sprint(l)) }

func isEqual(a, b api.Node) bool {
	data := bytes.Equal(a.Data, b.Data)
	a.Data, b.Data = nil, nil
	return data && reflect.DeepEqual(a, b)
}

func wantNames(t *testing.T, l []api.Node, s string, want []string, wantErr api.Errno) {
	t.Helper()
	if got, err := Names(l, s); !slices.Equal(got, want) || err != wantErr {
		t.Errorf("Names(%s, %.50q) = %q, %d, want %q, %d", said(l), s, got, err, want, wantErr)
	}
}

func wantWalk(t *testing.T, l []api.Node, want []string, wantErr api.Errno) {
	t.Helper()
	if got, err := Walk(l); !slices.Equal(got, want) || err != wantErr {
		t.Errorf("Walk(%s) = %q, %d, want %q, %d", said(l), got, err, want, wantErr)
	}
}

func wantDepth(t *testing.T, l []api.Node, want int, wantErr api.Errno) {
	t.Helper()
	if got, err := Depth(l); got != want || err != wantErr {
		t.Errorf("Depth(%s) = %d, %d, want %d, %d", said(l), got, err, want, wantErr)
	}
}

func wantSort(t *testing.T, l, want []api.Node) {
	t.Helper()
	if got := Sort(l); !slices.EqualFunc(got, want, isEqual) {
		t.Errorf("Sort(%s) = %s, want %s", said(l), said(got), said(want))
	}
}

// P12.1
func TestNames(t *testing.T) {
	for _, c := range []struct {
		s    string
		want []string
	}{
		{"", []string{"A", "a", "a!", "a-b", "aa", "b", "é"}},
		{"a", []string{"b", "b-", "bb", "c"}},
		{"a/b", []string{"c", "d", "e"}},
		{"a/b/d", []string{"a"}},
		{"a/bb", nil},
		{"a/c", []string{"b"}},
		{"a-b", []string{"c", "\xff"}},
		{"b", nil},
		{"é", []string{"a"}},
	} {
		wantNames(t, sample(), c.s, c.want, api.OK)
	}
	wantNames(t, []api.Node{dir("a"), file("a/b", ""), file("c", "")}, "", []string{"a", "c"}, api.OK)
	wantNames(t, nil, "", nil, api.OK)
	wantNames(t, []api.Node{}, "", nil, api.OK)
	wantNames(t, wide(40), "", pathsOf(wide(40)), api.OK)
	wantNames(t, wide(40), "d00039", nil, api.OK)
	for i, n := range deep(40) {
		want := []string{"a"}
		if i == 39 {
			want = nil
		}
		wantNames(t, deep(40), n.Path, want, api.OK)
	}
	long := strings.Repeat("x", 398)
	wantNames(t, []api.Node{dir("a"), file("a/"+long, ""), dir(long + "xx")}, "a", []string{long}, api.OK)
	wantNames(t, []api.Node{dir("a"), file("a/"+long, ""), dir(long + "xx")}, long+"xx", nil, api.OK)
}

// P12.1: a directory that is not there, and one that is none.
func TestNamesErrors(t *testing.T) {
	for _, s := range []string{
		"c", "B", "a/", "/a", "/", "a//b", "a/d", "a/b/c/d", "a/b/d/b", "b/a", "aa/a", ".", "./a", "a/.", "..", "a\x00", "\x00", "\xff", "*", strings.Repeat("a", 1000),
	} {
		wantNames(t, sample(), s, nil, api.ErrNone)
		wantNames(t, nil, s, nil, api.ErrNone)
	}
	for _, s := range []string{"A", "a/b/c", "a/b/d/a", "a/b/e", "a/b-", "a/c/b", "a!", "a-b/c", "a-b/\xff", "aa", "é/a"} {
		wantNames(t, sample(), s, nil, api.ErrUp)
	}
}

// P12.2
func TestWalk(t *testing.T) {
	wantWalk(t, sample(), []string{
		"A", "a", "a/b", "a/b/c", "a/b/d", "a/b/d/a", "a/b/e", "a/b-", "a/bb", "a/c", "a/c/b", "a!", "a-b", "a-b/c", "a-b/\xff", "aa", "b", "é", "é/a",
	}, api.OK)
	wantWalk(t, nil, nil, api.OK)
	wantWalk(t, []api.Node{}, nil, api.OK)
	wantWalk(t, []api.Node{sym("a")}, []string{"a"}, api.OK)
	wantWalk(t, wide(40), pathsOf(wide(40)), api.OK)
	wantWalk(t, deep(40), pathsOf(deep(40)), api.OK)
}

// P12.3
func TestDepth(t *testing.T) {
	wantDepth(t, sample(), 4, api.OK)
	wantDepth(t, nil, 0, api.OK)
	wantDepth(t, []api.Node{}, 0, api.OK)
	wantDepth(t, []api.Node{dir("a"), file("a/b", ""), file("c", "")}, 2, api.OK)
	wantDepth(t, []api.Node{file("c", ""), sym("d")}, 1, api.OK)
	wantDepth(t, []api.Node{dir("a"), dir("b"), dir("b/c"), sym("b/c/d"), dir("c"), file("c/d", "")}, 3, api.OK)
	wantDepth(t, []api.Node{file(strings.Repeat("x", 400), "")}, 1, api.OK)
	for n := range 41 {
		wantDepth(t, deep(n), n, api.OK)
		wantDepth(t, wide(n), min(n, 1), api.OK)
	}
}

// P12.1 to P12.3: what is wrong with a tree counts first, whatever the directory.
func TestInvalidTrees(t *testing.T) {
	for _, c := range []struct {
		l    []api.Node
		want api.Errno
	}{
		{wide(41), api.ErrSize},
		{deep(41), api.ErrSize},
		{make([]api.Node, 5000), api.ErrSize},
		{[]api.Node{dir("a"), dir("")}, api.ErrSize},
		{[]api.Node{file("a", strings.Repeat("x", 2001))}, api.ErrSize},
		{[]api.Node{dir("a"), file("a/\x00", "")}, api.ErrForm},
		{[]api.Node{dir("a"), linked("b", -1, "")}, api.ErrForm},
		{[]api.Node{dir("a"), dir("a/")}, api.ErrPath},
		{[]api.Node{dir("a"), dir("a/..")}, api.ErrPath},
		{[]api.Node{dir("a"), {Path: "b", Kind: api.Dir, Meta: api.Meta{Mode: -1}}}, api.ErrRange},
		{[]api.Node{dir("a"), {Path: "b", Kind: api.Link, Target: "a"}}, api.ErrKind},
		{[]api.Node{dir("a"), {Path: "b"}}, api.ErrKind},
		{[]api.Node{dir("b"), dir("a")}, api.ErrTwice},
		{[]api.Node{dir("a"), dir("a")}, api.ErrTwice},
		{[]api.Node{dir("a"), dir("a-b"), dir("a/b")}, api.ErrTwice},
		{[]api.Node{dir("a/b")}, api.ErrUp},
		{[]api.Node{file("a", ""), file("a/b", "")}, api.ErrUp},
		{[]api.Node{dir("a"), dir("a/b/c")}, api.ErrUp},
		{[]api.Node{linked("a", 1, "x"), linked("b", 1, "y")}, api.ErrLink},
	} {
		for _, s := range []string{"", "a", "b", "a/b", "z", "\x00"} {
			wantNames(t, c.l, s, nil, c.want)
		}
		wantWalk(t, c.l, nil, c.want)
		wantDepth(t, c.l, 0, c.want)
	}
}

// P12.4
func TestSort(t *testing.T) {
	wantSort(t, nil, nil)
	wantSort(t, []api.Node{}, nil)
	wantSort(t, sample(), sample())
	backward := sample()
	slices.Reverse(backward)
	wantSort(t, backward, sample())
	wantSort(t, []api.Node{dir("b"), dir("a-b"), dir("a/c"), dir("a"), dir("A")}, []api.Node{dir("A"), dir("a"), dir("a/c"), dir("a-b"), dir("b")})
	full := api.Node{
		Path: "a/b", Kind: api.File, Same: 7, Target: "t", Data: []byte("x\x00"),
		Meta: api.Meta{Mode: 0o644, UID: 1000, GID: 100, User: "ann", Group: "staff", Second: -1700000000, Nano: 5},
	}
	wantSort(t, []api.Node{file("b", ""), full, dir("a")}, []api.Node{dir("a"), full, file("b", "")})
}

// P12.4: the nodes may be many, and wrong in all that a tree can be wrong in; equal paths keep their order.
func TestSortAnyNodes(t *testing.T) {
	a, b, none := file("a", "1"), file("a", "0"), file("", "z")
	for _, l := range [][]api.Node{{a, b, none}, {a, none, b}, {none, a, b}} {
		wantSort(t, l, []api.Node{none, a, b})
	}
	for _, l := range [][]api.Node{{b, a, none}, {b, none, a}, {none, b, a}} {
		wantSort(t, l, []api.Node{none, b, a})
	}
	wantSort(t,
		[]api.Node{dir("a/"), {Path: "b/c", Kind: -1, Same: math.MinInt, Meta: api.Meta{Mode: -1}}, dir("/"), dir("a\x00"), {}, dir("//"), dir("a"), dir("\x00")},
		[]api.Node{{}, dir("/"), dir("//"), dir("\x00"), dir("a"), dir("a/"), dir("a\x00"), {Path: "b/c", Kind: -1, Same: math.MinInt, Meta: api.Meta{Mode: -1}}})
	random := rand.New(rand.NewSource(1))
	var l []api.Node
	for i := range 5000 {
		l = append(l, api.Node{Path: strings.Repeat("a", random.Intn(10)) + strings.Repeat("/", random.Intn(3)) + string([]byte{byte(random.Intn(256))}), Same: i})
	}
	wantSort(t, l, sortByWords(l))
	for i := range l {
		l[i].Path = "a"
	}
	wantSort(t, l, l)
}

// pool are nodes of which small trees are made, right ones and wrong ones.
func pool() []api.Node {
	return []api.Node{
		dir("a"), file("a", "x"), dir("a/b"), linked("a/b", 1, ""), dir("a/b/c"), sym("a/c"), dir("a-b"), linked("a-b/c", 1, ""), linked("b", 1, "x"), dir("b"), dir("b/a"), dir(""),
	}
}

// eachOf calls do with every list of at most n nodes of the pool.
func eachOf(n int, do func([]api.Node)) {
	l := make([]api.Node, 0, n)
	var more func()
	more = func() {
		do(l)
		if len(l) == n {
			return
		}
		for _, x := range pool() {
			l = append(l, x)
			more()
			l = l[:len(l)-1]
		}
	}
	more()
}

// parts of a path: the empty one has none.
func parts(s string) []string {
	if s == "" {
		return nil
	}
	return strings.Split(s, "/")
}

// namesByWords does what P12.1 tells.
func namesByWords(l []api.Node, s string) ([]string, api.Errno) {
	if err := tree.Check(l); err != api.OK {
		return nil, err
	}
	err := api.ErrNone
	if s == "" {
		err = api.OK
	}
	var names []string
	for _, n := range l {
		if n.Path == s && n.Kind == api.Dir {
			err = api.OK
		} else if n.Path == s {
			err = api.ErrUp
		}
		if all := parts(n.Path); slices.Equal(all[:len(all)-1], parts(s)) {
			names = append(names, all[len(all)-1])
		}
	}
	if err != api.OK {
		return nil, err
	}
	return names, api.OK
}

// walkByWords does what P12.2 tells, from a directory on.
func walkByWords(l []api.Node, s string) []string {
	var paths []string
	names, err := namesByWords(l, s)
	if err != api.OK {
		return nil
	}
	for _, name := range names {
		p := strings.TrimPrefix(s+"/"+name, "/")
		paths = append(append(paths, p), walkByWords(l, p)...)
	}
	return paths
}

// sortByWords puts one node after the other behind all that are not greater.
func sortByWords(l []api.Node) []api.Node {
	var sorted []api.Node
	for _, n := range l {
		i := len(sorted)
		for i > 0 && slices.Compare(parts(sorted[i-1].Path), parts(n.Path)) > 0 {
			i--
		}
		sorted = slices.Insert(sorted, i, n)
	}
	return sorted
}

// P12.1 to P12.4: all lists of few nodes.
func TestShort(t *testing.T) {
	right := 0
	eachOf(4, func(l []api.Node) {
		for _, s := range []string{"", "a", "a/b", "a-b", "b", "c"} {
			want, err := namesByWords(l, s)
			wantNames(t, l, s, want, err)
		}
		wantSort(t, l, sortByWords(l))
		err := tree.Check(l)
		wantWalk(t, l, walkByWords(l, ""), err)
		if err != api.OK {
			wantDepth(t, l, 0, err)
			return
		}
		right++
		wantWalk(t, l, pathsOf(l), api.OK)
		depth := 0
		for _, n := range l {
			depth = max(depth, strings.Count(n.Path, "/")+1)
		}
		wantDepth(t, l, depth, api.OK)
	})
	if right < 50 {
		t.Errorf("only %d lists are trees", right)
	}
}

// P12.1 to P12.4: trees of many nodes, in any order.
func TestMany(t *testing.T) {
	random := rand.New(rand.NewSource(1))
	names := []string{"a", "b", "a-b", "a!", "\xff"}
	for range 300 {
		var l []api.Node
		for range 200 {
			s := names[random.Intn(len(names))]
			for random.Intn(2) == 0 {
				s += "/" + names[random.Intn(len(names))]
			}
			n := []api.Node{dir(s), dir(s), dir(s), file(s, "x"), sym(s)}[random.Intn(5)]
			if next, err := tree.Put(l, n); err == api.OK {
				l = next
			}
		}
		for _, s := range append(pathsOf(l), "", "c") {
			want, err := namesByWords(l, s)
			wantNames(t, l, s, want, err)
		}
		wantWalk(t, l, walkByWords(l, ""), api.OK)
		wantWalk(t, l, pathsOf(l), api.OK)
		mixed := slices.Clone(l)
		random.Shuffle(len(mixed), func(i, j int) { mixed[i], mixed[j] = mixed[j], mixed[i] })
		wantSort(t, mixed, l)
	}
}

// crowded is a tree at the start of a longer list, with something in the unused capacity of all lists. One list is the data
// of all nodes that have any.
func crowded() []api.Node {
	data := append(make([]byte, 0, 64), "one, and what is behind it"...)
	own := api.Meta{User: "ann", Group: "staff"}
	file := func(s string) api.Node { return api.Node{Path: s, Kind: api.File, Meta: own, Data: data[:3]} }
	return []api.Node{dir("a"), file("a/b"), dir("a/c"), file("a/c/d"), sym("d"), file("e"), file("0"), dir("1")}[:6]
}

// room is all of a list, up to its capacity, and all of the lists in it; a later change of the list does not change it.
func room(l []api.Node) string {
	s := ""
	for _, n := range l[:cap(l)] {
		s += fmt.Sprintf("%q %q ", fmt.Sprint(n), n.Data[:cap(n.Data)])
	}
	return s
}

// scribble changes all that can be changed in a list, up to its capacity.
func scribble(l []api.Node) {
	for i := range l[:cap(l)] {
		data := l[:cap(l)][i].Data
		for j := range data[:cap(data)] {
			data[:cap(data)][j] = '!'
		}
		l[:cap(l)][i] = api.Node{Path: "!", Data: data}
	}
}

// P12.1 to P12.4: arguments are not changed.
func TestArguments(t *testing.T) {
	for _, l := range [][]api.Node{crowded(), slices.Concat(wide(3), crowded(), crowded())} {
		before := room(l)
		for _, s := range []string{"", "a", "d", "z"} {
			Names(l, s)
		}
		Walk(l)
		Depth(l)
		Sort(l)
		if room(l) != before {
			t.Error("an argument was changed")
		}
	}
}

// P12.4: the result shares nothing with the argument or another result, whether the nodes were in order or not.
func TestMemoryOfNodes(t *testing.T) {
	for _, backward := range []bool{false, true} {
		l := crowded()
		if backward {
			slices.Reverse(l)
		}
		one, other := Sort(l), Sort(l)
		whole := room(one)
		scribble(other)
		scribble(l)
		if room(one) != whole || len(one) == 0 {
			t.Error("a result shares memory with the argument or another result")
		}
		for i, n := range one {
			others := slices.Clip(slices.Delete(slices.Clone(one), i, i+1))
			whole := room(others)
			for j := range n.Data[:cap(n.Data)] {
				n.Data[:cap(n.Data)][j]++
			}
			if room(others) != whole {
				t.Errorf("the data of node %d is that of another node too", i)
			}
		}
	}
}

// P12.1 and P12.2: the lists of two calls are two lists, up to their capacity.
func TestMemoryOfLists(t *testing.T) {
	for k, call := range []func() []string{
		func() []string { names, _ := Names(crowded(), ""); return names },
		func() []string { names, _ := Names(crowded(), "a"); return names },
		func() []string { paths, _ := Walk(crowded()); return paths },
	} {
		one, other := call(), call()
		whole := fmt.Sprint(one[:cap(one)])
		for i := range other[:cap(other)] {
			other[:cap(other)][i] = "!"
		}
		if fmt.Sprint(one[:cap(one)]) != whole || len(one) == 0 {
			t.Errorf("two results of call %d share memory", k)
		}
	}
}

// P12.1, P12.2 and P12.4: strings are copied, so that no result keeps a longer string in memory of which one is a part.
func TestMemoryOfStrings(t *testing.T) {
	l := crowded()
	begin := map[*byte]bool{}
	note := func(s string) {
		for i := range len(s) {
			begin[unsafe.StringData(s[i:])] = true
		}
	}
	strs := func(l []api.Node) []string {
		var all []string
		for _, n := range l {
			all = append(all, n.Path, n.Target, n.Meta.User, n.Meta.Group)
		}
		return all
	}
	for _, s := range strs(l) {
		note(s)
	}
	top, _ := Names(l, "")
	inner, _ := Names(l, "a")
	paths, _ := Walk(l)
	for k, result := range [][]string{top, inner, paths, strs(Sort(l))} {
		for _, s := range result {
			if s != "" && begin[unsafe.StringData(s)] {
				t.Errorf("result %d has the string %q of an argument", k, s)
			}
			note(s)
		}
	}
}
