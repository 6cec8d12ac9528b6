package tree

import (
	"bytes"
	"fmt"
	"math"
	"math/rand"
	"reflect"
	"slices"
	"strings"
	"testing"
	"unsafe"

	"creel/api"
)

// owner is metadata with nothing wrong in it, and no field of value zero.
var owner = api.Meta{Mode: 0o644, UID: 1000, GID: 100, User: "ann", Group: "staff", Second: 1700000000, Nano: 5}

func xs(n int) string { return strings.Repeat("x", n) }

func dir(s string) api.Node { return api.Node{Path: s, Kind: api.Dir} }

func sym(s, target string) api.Node { return api.Node{Path: s, Kind: api.Sym, Target: target} }

func file(s, data string) api.Node { return api.Node{Path: s, Kind: api.File, Data: []byte(data)} }

// linked is one of the files that are the same.
func linked(s string, same int, data string) api.Node {
	n := file(s, data)
	n.Same = same
	return n
}

func with(n api.Node, changes ...func(*api.Node)) api.Node {
	for _, change := range changes {
		change(&n)
	}
	return n
}

// sample is a tree that has every kind, files that are the same, and something in every field.
func sample() []api.Node {
	own := func(n *api.Node) { n.Meta = owner }
	return []api.Node{
		with(dir("a"), own), with(linked("a/b", 7, "one"), own), dir("a/c"), with(linked("a/c/d", 7, "one"), own), linked("a/c/e", 2, ""),
		file("a/c/f", "one"), with(sym("a-b", "../a//\xff"), own), linked("b", 2, ""), with(dir("c"), own),
	}
}

// said is a list in one line, in which an empty list of bytes is like none.
func said(l []api.Node) string {
	var s strings.Builder
	for _, n := range l {
		fmt.Fprintf(&s, "{%.50q kind %d same %d target %.50q meta %.200q data %.50q (%d)} ",
			n.Path, n.Kind, n.Same, n.Target, fmt.Sprint(n.Meta), n.Data, len(n.Data))
	}
	return s.String()
}

func isEqual(a, b api.Node) bool {
	data := bytes.Equal(a.Data, b.Data)
	a.Data, b.Data = nil, nil
	return data && reflect.DeepEqual(a, b)
}

func wantRight(t *testing.T, n api.Node, want api.Errno) {
	t.Helper()
	if err := Right(n); err != want {
		t.Errorf("Right(%s) = %d, want %d", said([]api.Node{n}), err, want)
	}
}

func wantFind(t *testing.T, l []api.Node, s string, want int, wantErr api.Errno) {
	t.Helper()
	if i, err := Find(l, s); i != want || err != wantErr {
		t.Errorf("Find(%s, %q) = %d, %d, want %d, %d", said(l), s, i, err, want, wantErr)
	}
}

func wantCheck(t *testing.T, l []api.Node, want api.Errno) {
	t.Helper()
	if err := Check(l); err != want {
		t.Errorf("Check(%s) = %d, want %d", said(l), err, want)
	}
}

func wantPut(t *testing.T, l []api.Node, n api.Node, want []api.Node, wantErr api.Errno) {
	t.Helper()
	if got, err := Put(l, n); !slices.EqualFunc(got, want, isEqual) || err != wantErr {
		t.Errorf("Put(%s, %s) = %s, %d, want %s, %d", said(l), said([]api.Node{n}), said(got), err, said(want), wantErr)
	}
}

func wantRemove(t *testing.T, l []api.Node, s string, want []api.Node, wantErr api.Errno) {
	t.Helper()
	if got, err := Remove(l, s); !slices.EqualFunc(got, want, isEqual) || err != wantErr {
		t.Errorf("Remove(%s, %q) = %s, %d, want %s, %d", said(l), s, said(got), err, said(want), wantErr)
	}
}

// P11.1
func TestRight(t *testing.T) {
	for _, n := range sample() {
		wantRight(t, n, api.OK)
	}
	for _, n := range []api.Node{
		dir("a/b/c"), dir(xs(400)), file("a", ""), {Path: "a", Kind: api.File, Data: []byte{}}, file("a", "\x00"), file("a", "\xff\x00\n"),
		file("a", xs(1999)), file("a", xs(2000)), linked("a", 1, ""), linked("a", math.MaxInt, xs(2000)),
		sym("a", "a"), sym("a", "."), sym("a", ".."), sym("a", "/"), sym("a", "//a/../"), sym("a", " "), sym("a", "\xff\x01\n"),
		sym("a", xs(399)), sym("a", xs(400)), sym("a", strings.Repeat("é", 200)),
		with(dir("a"), func(n *api.Node) { n.Data = []byte{} }), with(sym("a", "b"), func(n *api.Node) { n.Data = []byte{} }),
		with(dir("a"), func(n *api.Node) {
			n.Meta = api.Meta{Mode: 4095, UID: 1 << 50, GID: 1 << 50, User: xs(60), Group: xs(60), Second: -1 << 40, Nano: 999999999}
		}),
	} {
		wantRight(t, n, api.OK)
	}
}

// P11.1: every size of what may be too long.
func TestRightSize(t *testing.T) {
	for size := range 2100 {
		want := api.OK
		if size > 2000 {
			want = api.ErrSize
		}
		wantRight(t, file("a", xs(size)), want)
		wantRight(t, linked("a", 1, strings.Repeat("\x00", size)), want)
	}
	for size := 1; size < 450; size++ {
		want := api.OK
		if size > 400 {
			want = api.ErrSize
		}
		wantRight(t, sym("a", xs(size)), want)
		wantRight(t, dir(xs(size)), want)
	}
	wantRight(t, sym("a", strings.Repeat("é", 201)), api.ErrSize)
	wantRight(t, sym("a", xs(100000)), api.ErrSize)
}

// P11.1: a link is a kind of members alone.
func TestRightKind(t *testing.T) {
	for _, kind := range []int{math.MinInt, -1 << 32, -2, -1, 0, 4, 5, 6, 255, 257, 1 << 32, 1<<32 + 1, math.MaxInt} {
		wantRight(t, api.Node{Path: "a", Kind: kind}, api.ErrKind)
		wantRight(t, api.Node{Path: "a", Kind: kind, Target: "b"}, api.ErrKind)
	}
}

// P11.1: what a node of one kind may not have, or must have.
func TestRightForm(t *testing.T) {
	for _, n := range []api.Node{
		with(file("a", ""), func(n *api.Node) { n.Target = "b" }),
		with(file("a", "x"), func(n *api.Node) { n.Target = "\x00" }),
		linked("a", -1, ""), linked("a", math.MinInt, "x"),
		with(dir("a"), func(n *api.Node) { n.Data = []byte("x") }),
		with(dir("a"), func(n *api.Node) { n.Data = []byte{0} }),
		with(dir("a"), func(n *api.Node) { n.Same = 1 }),
		with(dir("a"), func(n *api.Node) { n.Same = -1 }),
		with(dir("a"), func(n *api.Node) { n.Target = "b" }),
		with(dir("a"), func(n *api.Node) { n.Target = "\x00" }),
		sym("a", ""),
		with(sym("a", "b"), func(n *api.Node) { n.Data = []byte("x") }),
		with(sym("a", "b"), func(n *api.Node) { n.Data = []byte{0} }),
		with(sym("a", "b"), func(n *api.Node) { n.Same = 1 }),
		with(sym("a", "b"), func(n *api.Node) { n.Same = -1 }),
	} {
		wantRight(t, n, api.ErrForm)
	}
	for place := range 400 {
		wantRight(t, sym("a", xs(place)+"\x00"), api.ErrForm)
		wantRight(t, sym("a", xs(place)+"\x00"+xs(399-place)), api.ErrForm)
	}
}

// wrong is a single thing that is wrong.
type wrong struct {
	err    api.Errno
	change func(*api.Node)
}

// wrongOfAll are what may be wrong with a node of any kind, in the order in which they are checked.
var wrongOfAll = []wrong{
	{api.ErrSize, func(n *api.Node) { n.Path = "" }},
	{api.ErrSize, func(n *api.Node) { n.Path = xs(401) }},
	{api.ErrForm, func(n *api.Node) { n.Path = "a//\x00" }},
	{api.ErrPath, func(n *api.Node) { n.Path = "/a" }},
	{api.ErrPath, func(n *api.Node) { n.Path = "a/../b" }},
	{api.ErrRange, func(n *api.Node) { n.Meta.Mode = 4096 }},
	{api.ErrRange, func(n *api.Node) { n.Meta.UID = -1 }},
	{api.ErrSize, func(n *api.Node) { n.Meta.User = xs(61) }},
	{api.ErrForm, func(n *api.Node) { n.Meta.Group = "\x00" }},
	{api.ErrRange, func(n *api.Node) { n.Meta.Nano = 1000000000 }},
	{api.ErrKind, func(n *api.Node) { n.Kind = 4 }},
}

// wrongOfKind are what else may be wrong with a node of one kind.
var wrongOfKind = []struct {
	right api.Node
	l     []wrong
}{
	{linked("a", 3, "x"), []wrong{
		{api.ErrForm, func(n *api.Node) { n.Target = xs(401) }},
		{api.ErrForm, func(n *api.Node) { n.Same = -1 }},
		{api.ErrSize, func(n *api.Node) { n.Data = make([]byte, 2001) }},
	}},
	{dir("a"), []wrong{
		{api.ErrForm, func(n *api.Node) { n.Data = make([]byte, 2001) }},
		{api.ErrForm, func(n *api.Node) { n.Same = -1 }},
		{api.ErrForm, func(n *api.Node) { n.Target = xs(401) }},
	}},
	{sym("a", "b"), []wrong{
		{api.ErrForm, func(n *api.Node) { n.Data = make([]byte, 2001) }},
		{api.ErrForm, func(n *api.Node) { n.Same = 1 }},
		{api.ErrForm, func(n *api.Node) { n.Target = xs(400) + "\x00" }},
		{api.ErrForm, func(n *api.Node) { n.Target = "" }},
		{api.ErrSize, func(n *api.Node) { n.Target = xs(401) }},
	}},
}

// P11.1: of two things that are wrong, the one that is checked earlier counts. It is put in last, so that it stays where
// both are in one field.
func TestRightOrder(t *testing.T) {
	for _, c := range wrongOfKind {
		all := slices.Concat(wrongOfAll, c.l)
		wantRight(t, c.right, api.OK)
		for i, first := range all {
			wantRight(t, with(c.right, first.change), first.err)
			for _, later := range all[i+1:] {
				wantRight(t, with(c.right, later.change, first.change), first.err)
			}
		}
	}
	wantRight(t, api.Node{}, api.ErrSize)
	wantRight(t, api.Node{Path: "a"}, api.ErrKind)
	wantRight(t, api.Node{Path: "a", Kind: api.File, Target: "b", Data: make([]byte, 3000)}, api.ErrForm)
}

// P11.2
func TestFind(t *testing.T) {
	l := sample()
	for i, n := range l {
		wantFind(t, l, n.Path, i, api.OK)
		wantFind(t, l, strings.Clone(n.Path), i, api.OK)
	}
	for _, s := range []string{"", "d", "A", "a/", "/a", "a/b/", "a/bb", "a/c/", "a//b", "a/c/d/e", "a-", "a/c\x00", "./a", xs(1000)} {
		wantFind(t, l, s, 0, api.ErrNone)
		wantFind(t, nil, s, 0, api.ErrNone)
		wantFind(t, []api.Node{}, s, 0, api.ErrNone)
	}
}

// P11.2: the tree need be neither in order, nor small, nor right in anything else.
func TestFindInvalid(t *testing.T) {
	l := []api.Node{sym("c", ""), file("b", "1"), dir("c"), {}, {Path: "a//b", Kind: -1}, file("b", "2"), file("", ""), file("a\x00", "x"), file("\xff", "")}
	for _, c := range []struct {
		s    string
		want int
	}{{"c", 0}, {"b", 1}, {"", 3}, {"a//b", 4}, {"a\x00", 7}, {"\xff", 8}} {
		wantFind(t, l, c.s, c.want, api.OK)
	}
	wantFind(t, l, "a", 0, api.ErrNone)
	wantFind(t, l, "\xfe", 0, api.ErrNone)
	var many []api.Node
	for i := range 1000 {
		many = append(many, dir(fmt.Sprint(i%500)))
	}
	for i := range 500 {
		wantFind(t, many, fmt.Sprint(i), i, api.OK)
	}
}

// wide has n directories at its top.
func wide(n int) []api.Node {
	var l []api.Node
	for i := range n {
		l = append(l, dir(fmt.Sprintf("d%05d", i)))
	}
	return l
}

// deep has n directories, each one in the one ahead of it.
func deep(n int) []api.Node {
	var l []api.Node
	for i := range n {
		l = append(l, dir("a"+strings.Repeat("/a", i)))
	}
	return l
}

// P11.3
func TestCheck(t *testing.T) {
	for _, l := range [][]api.Node{
		nil,
		{},
		sample(),
		{dir("a")},
		{file("a", "x")},
		{dir("a"), file("a/b", "x")},
		{dir("a"), dir("a/b"), dir("a/b/c")},
		{dir("a"), file("a/z", ""), file("a-b", ""), file("ab", "")},
		{dir("a"), dir("a-b"), file("a-b/c", "")},
		{file("B", ""), file("a", ""), file("\xff", "")},
		{linked("a", 1, "x"), linked("b", 1, "x"), linked("c", 1, "x")},
		{linked("a", 1, "x"), linked("b", 2, "y"), linked("c", 1, "x"), linked("d", 2, "y")},
		{linked("a", 2, ""), linked("b", 1, ""), {Path: "c", Kind: api.File, Same: 2, Data: []byte{}}},
		{linked("a", math.MaxInt, "x"), linked("b", math.MaxInt, "x")},
		{file("a", "x"), file("b", "y"), sym("c", "a"), sym("d", "a")},
		{sym("a", "b"), sym("b", "a")},
	} {
		wantCheck(t, l, api.OK)
	}
}

// P11.3: the number of nodes counts first, whatever they are.
func TestCheckSize(t *testing.T) {
	for n := range 60 {
		want := api.OK
		if n > 40 {
			want = api.ErrSize
		}
		wantCheck(t, wide(n), want)
		wantCheck(t, deep(n), want)
	}
	wantCheck(t, make([]api.Node, 41), api.ErrSize)
	wantCheck(t, make([]api.Node, 5000), api.ErrSize)
	wantCheck(t, append(wide(40), dir("d00000")), api.ErrSize)
	wantCheck(t, append(wide(40), dir("z/z")), api.ErrSize)
	wantCheck(t, append(wide(40), api.Node{Path: "z"}), api.ErrSize)
	wantCheck(t, append(wide(39), api.Node{Path: "z"}), api.ErrKind)
}

// P11.3: whatever Right finds, at every place of a tree.
func TestCheckRight(t *testing.T) {
	for _, c := range wrongOfKind {
		for _, w := range slices.Concat(wrongOfAll, c.l) {
			wantCheck(t, []api.Node{with(c.right, w.change)}, w.err)
			for i := range sample() {
				l := sample()
				l[i] = with(c.right, w.change)
				wantCheck(t, l, w.err)
			}
		}
	}
}

// P11.3: paths increase, part by part.
func TestCheckTwice(t *testing.T) {
	for _, l := range [][]api.Node{
		{dir("a"), dir("a")},
		{dir("a"), file("a", "x")},
		{dir("b"), dir("a")},
		{dir("a"), dir("c"), dir("b")},
		{dir("a"), dir("b"), dir("a")},
		{dir("a"), dir("a-b"), file("a/b", "")},
		{dir("a"), file("a!", ""), file("a/b", "")},
		{dir("a"), dir("b"), file("a/b", "")},
		{dir("a"), file("a/b", ""), dir("a")},
		{dir("a"), file("a/c", ""), file("a/b", "")},
		{file("a", ""), file("B", "")},
		{file("\xff", ""), file("a", "")},
		{file("9", ""), file("10", "")},
	} {
		wantCheck(t, l, api.ErrTwice)
	}
}

// P11.3: what a node is in is ahead of it, and a directory.
func TestCheckUp(t *testing.T) {
	for _, l := range [][]api.Node{
		{file("a/b", "")},
		{dir("a/b")},
		{dir("a"), dir("a/b/c")},
		{dir("a"), dir("b"), file("c/d", "")},
		{file("a", ""), file("a/b", "")},
		{sym("a", "b"), file("a/b", "")},
		{sym("a", "."), dir("b"), sym("b/c", "d"), dir("b/c/d")},
		{dir("b"), file("b/c", ""), file("b/c/d", "")},
		{dir("a"), file("a/b", ""), file("ab/b", "")},
		{dir("A"), file("a/b", "")},
		{dir("a"), dir("b"), file("b/a/c", "")},
	} {
		wantCheck(t, l, api.ErrUp)
	}
}

// P11.3: files that are the same agree in all but their paths.
func TestCheckLink(t *testing.T) {
	for _, change := range []func(*api.Node){
		func(n *api.Node) { n.Meta.Mode++ },
		func(n *api.Node) { n.Meta.UID++ },
		func(n *api.Node) { n.Meta.GID++ },
		func(n *api.Node) { n.Meta.User = "" },
		func(n *api.Node) { n.Meta.Group += " " },
		func(n *api.Node) { n.Meta.Second = -n.Meta.Second },
		func(n *api.Node) { n.Meta.Nano++ },
		func(n *api.Node) { n.Data = nil },
		func(n *api.Node) { n.Data = []byte("one\x00") },
		func(n *api.Node) { n.Data = []byte("onE") },
	} {
		same := with(linked("b", 7, "one"), func(n *api.Node) { n.Meta = owner })
		one := with(same, func(n *api.Node) { n.Path = "a" })
		other := with(same, func(n *api.Node) { n.Path = "c" }, change)
		wantCheck(t, []api.Node{one, other}, api.ErrLink)
		wantCheck(t, []api.Node{one, same, other}, api.ErrLink)
		wantCheck(t, []api.Node{one, file("b", ""), other}, api.ErrLink)
		wantCheck(t, []api.Node{one, linked("b", 1, "x"), other}, api.ErrLink)
		wantCheck(t, []api.Node{with(one, change), same}, api.ErrLink)
		other.Same = 8
		wantCheck(t, []api.Node{one, same, other}, api.OK)
		other.Same = 0
		wantCheck(t, []api.Node{one, same, other}, api.OK)
		one.Same = 0
		wantCheck(t, []api.Node{one, same, other}, api.OK)
	}
}

// P11.3: of what is wrong with one node, the earlier one counts, and of two nodes the one that is ahead.
func TestCheckOrder(t *testing.T) {
	long := linked("a/b", 1, xs(2001))
	for _, c := range []struct {
		l    []api.Node
		want api.Errno
	}{
		{[]api.Node{dir("b"), long}, api.ErrSize},                             // not greater, and not in a directory
		{[]api.Node{linked("a", 1, ""), long}, api.ErrSize},                   // in no directory, and another file
		{[]api.Node{linked("b", 1, ""), linked("a/b", 1, "x")}, api.ErrTwice}, // in no directory, and another file
		{[]api.Node{linked("a", 1, ""), linked("a", 1, "x")}, api.ErrTwice},
		{[]api.Node{linked("a", 1, ""), linked("b/c", 1, "x")}, api.ErrUp},
		{[]api.Node{linked("a", 1, ""), linked("b", 1, "x"), {}}, api.ErrLink},
		{[]api.Node{linked("a", 1, ""), linked("b", 1, "x"), dir("a")}, api.ErrLink},
		{[]api.Node{file("a/b", ""), {}}, api.ErrUp},
		{[]api.Node{file("a/b", ""), file("a", ""), linked("b", 1, "")}, api.ErrUp},
		{[]api.Node{dir("a"), dir("a"), {Path: "b"}}, api.ErrTwice},
		{[]api.Node{dir("b"), dir("a"), dir("c/d")}, api.ErrTwice},
		{[]api.Node{{Path: "a"}, dir("a"), dir("c/d")}, api.ErrKind},
	} {
		wantCheck(t, c.l, c.want)
	}
}

// pool are nodes of which small trees are made, right ones and wrong ones.
func pool() []api.Node {
	return []api.Node{
		dir("a"), file("a", ""), linked("a", 1, "x"), dir("a/b"), linked("a/b", 1, "x"), linked("a/b", 2, "x"), sym("a/b/c", "a"),
		linked("a-b", 1, "y"), linked("b", 1, "x"), with(linked("b", 2, "x"), func(n *api.Node) { n.Meta = owner }), dir("b"), {Path: "a/", Kind: api.Dir},
	}
}

// eachOf calls do with every list of at most n nodes of the pool.
func eachOf(n int, do func([]api.Node)) {
	l := make([]api.Node, 0, n)
	var more func()
	more = func() {
		do(l)
		if len(l) == n {
			return
		}
		for _, x := range pool() {
			l = append(l, x)
			more()
			l = l[:len(l)-1]
		}
	}
	more()
}

func parts(s string) []string { return strings.Split(s, "/") }

// checkByWords does what P11.3 tells, without what earlier nodes are known to be.
func checkByWords(l []api.Node) api.Errno {
	if len(l) > 40 {
		return api.ErrSize
	}
	for i, n := range l {
		if err := Right(n); err != api.OK {
			return err
		}
		if i > 0 && slices.Compare(parts(n.Path), parts(l[i-1].Path)) <= 0 {
			return api.ErrTwice
		}
		all := parts(n.Path)
		inDir, alike := len(all) == 1, true
		for _, other := range l[:i] {
			inDir = inDir || other.Kind == api.Dir && slices.Equal(parts(other.Path), all[:len(all)-1])
			if n.Same > 0 && other.Same == n.Same {
				alike = alike && other.Meta == n.Meta && string(other.Data) == string(n.Data)
			}
		}
		if !inDir {
			return api.ErrUp
		}
		if !alike {
			return api.ErrLink
		}
	}
	return api.OK
}

// putByWords does what P11.5 tells.
func putByWords(l []api.Node, n api.Node) ([]api.Node, api.Errno) {
	if err := checkByWords(l); err != api.OK {
		return nil, err
	}
	result := []api.Node{n}
	for _, other := range l {
		if other.Path != n.Path {
			result = append(result, other)
		}
	}
	slices.SortStableFunc(result, func(a, b api.Node) int { return slices.Compare(parts(a.Path), parts(b.Path)) })
	if err := checkByWords(result); err != api.OK {
		return nil, err
	}
	return result, api.OK
}

// removeByWords does what P11.6 tells.
func removeByWords(l []api.Node, s string) ([]api.Node, api.Errno) {
	if err := checkByWords(l); err != api.OK {
		return nil, err
	}
	var result []api.Node
	found := false
	for _, n := range l {
		found = found || n.Path == s
		if n.Path != s && !strings.HasPrefix(n.Path, s+"/") {
			result = append(result, n)
		}
	}
	if !found {
		return nil, api.ErrNone
	}
	return result, api.OK
}

// P11.3: all lists of few nodes.
func TestCheckShort(t *testing.T) {
	eachOf(4, func(l []api.Node) { wantCheck(t, l, checkByWords(l)) })
}

// P11.5 and P11.6: all lists of few nodes.
func TestPutRemoveShort(t *testing.T) {
	eachOf(3, func(l []api.Node) {
		for _, n := range pool() {
			want, err := putByWords(l, n)
			wantPut(t, l, n, want, err)
		}
		for _, s := range []string{"", "a", "a/", "a/b", "a/b/c", "a-b", "b", "c"} {
			want, err := removeByWords(l, s)
			wantRemove(t, l, s, want, err)
		}
	})
}

// P11.5 and P11.6: trees that grow and shrink.
func TestPutRemoveMany(t *testing.T) {
	random := rand.New(rand.NewSource(1))
	names := []string{"a", "b", "a-b", "a!", "\xff"}
	var l []api.Node
	seen := map[api.Errno]bool{}
	for range 20000 {
		s := names[random.Intn(len(names))]
		for random.Intn(2) == 0 {
			s += "/" + names[random.Intn(len(names))]
		}
		var next []api.Node
		var err api.Errno
		if random.Intn(20) == 0 {
			next, err = removeByWords(l, s)
			wantRemove(t, l, s, next, err)
		} else {
			n := []api.Node{dir(s), dir(s), dir(s), file(s, "x"), linked(s, 1, "x"), linked(s, 1, "y"), sym(s, "a")}[random.Intn(7)]
			next, err = putByWords(l, n)
			wantPut(t, l, n, next, err)
		}
		seen[err] = true
		if err == api.OK {
			l = next
		}
	}
	for _, err := range []api.Errno{api.OK, api.ErrSize, api.ErrUp, api.ErrLink, api.ErrNone} {
		if !seen[err] {
			t.Errorf("no step ended with %d", err)
		}
	}
}

// P11.5: a node at every place of a tree.
func TestPutNew(t *testing.T) {
	l := []api.Node{dir("b"), file("b/d", "x"), dir("c")}
	for _, c := range []struct {
		n  api.Node
		at int
	}{
		{file("a", "y"), 0}, {dir("B"), 0}, {sym("b/c", "y"), 1}, {linked("b/e", 1, "y"), 2}, {file("b-", ""), 2}, {file("bb", ""), 2},
		{dir("c/a"), 3}, {dir("d"), 3}, {file("\xff", ""), 3},
	} {
		wantPut(t, l, c.n, slices.Insert(slices.Clone(l), c.at, c.n), api.OK)
	}
	for _, n := range []api.Node{dir("a"), file("a", "x"), linked("a", 1, ""), sym("a", "b")} {
		wantPut(t, nil, n, []api.Node{n}, api.OK)
		wantPut(t, []api.Node{}, n, []api.Node{n}, api.OK)
	}
}

// P11.5: a node of another one's path takes its place, with all its fields.
func TestPutReplace(t *testing.T) {
	l := []api.Node{file("a", "x"), linked("b", 1, "x"), linked("c", 1, "x"), dir("d"), sym("e", "a")}
	for i, n := range l {
		for _, n := range []api.Node{
			dir(n.Path), file(n.Path, "y"), linked(n.Path, 2, "y"), linked(n.Path, 1, "x"), sym(n.Path, "z"), with(dir(n.Path), func(n *api.Node) { n.Meta = owner }),
		} {
			want := slices.Clone(l)
			want[i] = n
			wantPut(t, l, n, want, api.OK)
		}
	}
	// A directory that has something in it can be replaced by another one, but by nothing else.
	full := []api.Node{dir("a"), dir("a/b"), file("a/b/c", "")}
	own := with(dir("a"), func(n *api.Node) { n.Meta = owner })
	wantPut(t, full, own, []api.Node{own, full[1], full[2]}, api.OK)
	for _, s := range []string{"a", "a/b"} {
		wantPut(t, full, file(s, ""), nil, api.ErrUp)
		wantPut(t, full, sym(s, "b"), nil, api.ErrUp)
	}
	// The only file of its Same may change, one of two may not.
	wantPut(t, []api.Node{linked("a", 1, "x")}, linked("a", 1, "y"), []api.Node{linked("a", 1, "y")}, api.OK)
	for _, s := range []string{"b", "c"} {
		wantPut(t, l, linked(s, 1, "y"), nil, api.ErrLink)
		wantPut(t, l, with(linked(s, 1, "x"), func(n *api.Node) { n.Meta = owner }), nil, api.ErrLink)
	}
}

// P11.5: what is wrong with the tree counts first, then what is wrong with the result.
func TestPutErrors(t *testing.T) {
	for _, c := range wrongOfKind {
		for _, w := range slices.Concat(wrongOfAll, c.l) {
			wantPut(t, sample(), with(c.right, w.change), nil, w.err)
			wantPut(t, nil, with(c.right, w.change), nil, w.err)
			wantPut(t, []api.Node{with(c.right, w.change)}, api.Node{Path: "z"}, nil, w.err)
		}
	}
	// A node that would have made the tree a right one.
	wantPut(t, []api.Node{file("a/b", "")}, dir("a"), nil, api.ErrUp)
	wantPut(t, []api.Node{file("a", ""), file("a/b", "")}, dir("a"), nil, api.ErrUp)
	wantPut(t, []api.Node{dir("a"), file("a", "")}, dir("a"), nil, api.ErrTwice)
	wantPut(t, []api.Node{dir("b"), dir("a")}, dir("a"), nil, api.ErrTwice)
	wantPut(t, []api.Node{linked("a", 1, ""), linked("b", 1, "x")}, linked("b", 1, ""), nil, api.ErrLink)
	wantPut(t, []api.Node{{Path: "a"}}, dir("a"), nil, api.ErrKind)
	// A node that has no place in the tree.
	wantPut(t, nil, file("a/b", ""), nil, api.ErrUp)
	wantPut(t, sample(), file("a/d/e", ""), nil, api.ErrUp)
	wantPut(t, sample(), file("a/b/e", ""), nil, api.ErrUp)
	wantPut(t, sample(), file("a-b/e", ""), nil, api.ErrUp)
	wantPut(t, sample(), linked("d", 7, "two"), nil, api.ErrLink)
	// The node ahead of a wrong one counts first.
	wantPut(t, []api.Node{linked("c", 1, "x"), linked("d", 1, "x")}, linked("a/b", 1, ""), nil, api.ErrUp)
	wantPut(t, []api.Node{linked("c", 1, "x"), linked("d", 1, "x")}, linked("a", 1, ""), nil, api.ErrLink)
	wantPut(t, []api.Node{dir("a"), file("a/b", "")}, with(file("a", ""), func(n *api.Node) { n.Same = -1 }), nil, api.ErrForm)
}

// P11.5: the size of the tree, and that of the result.
func TestPutSize(t *testing.T) {
	l := wide(40)
	wantPut(t, l, dir("z"), nil, api.ErrSize)
	wantPut(t, l, dir("z/z"), nil, api.ErrSize)
	wantPut(t, l, api.Node{Path: "z"}, nil, api.ErrSize)
	wantPut(t, l, api.Node{Path: "d00000"}, nil, api.ErrKind)
	wantPut(t, l[:39], dir("z"), append(wide(39), dir("z")), api.OK)
	wantPut(t, l[:39], dir("a"), append([]api.Node{dir("a")}, wide(39)...), api.OK)
	wantPut(t, wide(41), dir("d00000"), nil, api.ErrSize)
	for i, n := range l {
		want := wide(40)
		want[i] = file(n.Path, "x")
		wantPut(t, l, want[i], want, api.OK)
	}
}

// P11.6
func TestRemove(t *testing.T) {
	l := []api.Node{dir("a"), dir("a/b"), file("a/b/c", "x"), file("a/bb", ""), dir("a-b"), linked("a-b/c", 1, "x"), linked("aa", 1, "x"), sym("b", "a")}
	for _, c := range []struct {
		s    string
		rest []int
	}{
		{"a", []int{4, 5, 6, 7}},
		{"a/b", []int{0, 3, 4, 5, 6, 7}},
		{"a/b/c", []int{0, 1, 3, 4, 5, 6, 7}},
		{"a/bb", []int{0, 1, 2, 4, 5, 6, 7}},
		{"a-b", []int{0, 1, 2, 3, 6, 7}},
		{"a-b/c", []int{0, 1, 2, 3, 4, 6, 7}},
		{"aa", []int{0, 1, 2, 3, 4, 5, 7}},
		{"b", []int{0, 1, 2, 3, 4, 5, 6}},
	} {
		var want []api.Node
		for _, i := range c.rest {
			want = append(want, l[i])
		}
		wantRemove(t, l, c.s, want, api.OK)
	}
	wantRemove(t, []api.Node{dir("a")}, "a", nil, api.OK)
	wantRemove(t, deep(40), "a", nil, api.OK)
	wantRemove(t, deep(40), "a/a", deep(1), api.OK)
	wantRemove(t, wide(40), "d00039", wide(39), api.OK)
}

// P11.6: what is wrong with the tree counts first.
func TestRemoveErrors(t *testing.T) {
	for _, s := range []string{"", "d", "/", "a/", "/a", "a//b", "a/d", "a/b/c", ".", "a/.", "a/b\x00", "A", xs(1000)} {
		wantRemove(t, sample(), s, nil, api.ErrNone)
		wantRemove(t, nil, s, nil, api.ErrNone)
		wantRemove(t, []api.Node{{}}, s, nil, api.ErrSize)
		wantRemove(t, wide(41), s, nil, api.ErrSize)
	}
	// A path without which the tree would be a right one.
	wantRemove(t, []api.Node{file("a", ""), file("a/b", "")}, "a/b", nil, api.ErrUp)
	wantRemove(t, []api.Node{file("a/b", "")}, "a", nil, api.ErrUp)
	wantRemove(t, []api.Node{dir("a"), dir("a")}, "a", nil, api.ErrTwice)
	wantRemove(t, []api.Node{linked("a", 1, ""), linked("b", 1, "x")}, "b", nil, api.ErrLink)
	wantRemove(t, []api.Node{dir("a"), {Path: "b"}}, "b", nil, api.ErrKind)
	wantRemove(t, wide(41), "d00040", nil, api.ErrSize)
}

// P11.4: any nodes, in any order.
func TestCopy(t *testing.T) {
	for _, l := range [][]api.Node{
		nil, {}, sample(), wide(200), {{}}, {{Path: "/", Kind: -1, Same: math.MinInt, Target: "\x00", Meta: api.Meta{Mode: -1, Nano: -1}, Data: []byte("x")}},
		{file("b", xs(5000)), file("a", ""), file("b", "\x00"), {Path: "c", Kind: api.Dir, Data: []byte{}}},
	} {
		if got := Copy(l); !slices.EqualFunc(got, l, isEqual) {
			t.Errorf("Copy(%s) = %s", said(l), said(got))
		}
	}
	eachOf(3, func(l []api.Node) {
		if got := Copy(l); !slices.EqualFunc(got, l, isEqual) {
			t.Errorf("Copy(%s) = %s", said(l), said(got))
		}
	})
}

// crowded is the sample at the start of a longer list, with something in the unused capacity of all lists, and a node that
// is not in it yet. One list is the data of all nodes that have any.
func crowded() ([]api.Node, api.Node) {
	l := slices.Concat(sample(), sample(), sample())[:len(sample())]
	data := append(make([]byte, 0, 64), "one, and what is behind it"...)
	for i := range l {
		if len(l[i].Data) > 0 {
			l[i].Data = data[:3]
		}
	}
	return l, api.Node{Path: "a/c/g", Kind: api.File, Same: 7, Meta: owner, Data: data[:3]}
}

// room is all of a list, up to its capacity, and all of the lists in it; a later change of the list does not change it.
func room(l []api.Node) string {
	s := ""
	for _, n := range l[:cap(l)] {
		s += said([]api.Node{n}) + string(n.Data[:cap(n.Data)])
	}
	return s
}

// scribble changes all that can be changed in a list, up to its capacity.
func scribble(l []api.Node) {
	for i := range l[:cap(l)] {
		data := l[:cap(l)][i].Data
		for j := range data[:cap(data)] {
			data[:cap(data)][j] = '!'
		}
		l[:cap(l)][i] = api.Node{Path: "!", Data: data}
	}
}

// results are what the functions give back for a tree and a node.
func results(l []api.Node, n api.Node) [][]api.Node {
	put, _ := Put(l, n)
	again, _ := Put(l, with(l[2], func(n *api.Node) { n.Meta.Mode = 0 }))
	removed, _ := Remove(l, "a/c")
	last, _ := Remove(l, "c")
	Find(l, "c")
	Check(l)
	return [][]api.Node{Copy(l), put, again, removed, last}
}

// P11.4 to P11.6: arguments are not changed, and results share nothing with them or with those of other calls.
func TestMemory(t *testing.T) {
	for k := range results(crowded()) {
		l, n := crowded()
		node := []api.Node{n}
		before, beforeNode := room(l), room(node)
		all, others := results(l, n), results(l, n)
		if room(l) != before || room(node) != beforeNode {
			t.Error("an argument was changed")
		}
		whole := room(all[k])
		for i := range all {
			scribble(others[i])
			if i != k {
				scribble(all[i])
			}
		}
		scribble(l)
		scribble(node)
		if room(all[k]) != whole || len(all[k]) == 0 {
			t.Errorf("result %d shares memory with an argument or another result", k)
		}
	}
}

// P11.4 to P11.6: the data of two nodes of one result are two lists, even if they were one.
func TestMemoryOfOneResult(t *testing.T) {
	for k, result := range results(crowded()) {
		for i, n := range result {
			others := slices.Clip(slices.Delete(slices.Clone(result), i, i+1))
			whole := room(others)
			for j := range n.Data[:cap(n.Data)] {
				n.Data[:cap(n.Data)][j]++
			}
			if room(others) != whole {
				t.Errorf("the data of node %d of result %d is that of another node too", i, k)
			}
		}
	}
}

// P11.4 to P11.6: strings are copied too, so that no result keeps a longer string in memory of which one is a part.
func TestMemoryOfStrings(t *testing.T) {
	l, n := sample(), file("d", "x")
	n.Meta = owner
	strs := func(n api.Node) []string { return []string{n.Path, n.Target, n.Meta.User, n.Meta.Group} }
	seen := map[*byte]bool{}
	for _, arg := range append(slices.Clone(l), n) {
		for _, s := range strs(arg) {
			if s != "" {
				seen[unsafe.StringData(s)] = true
			}
		}
	}
	for k, result := range results(l, n) {
		for _, got := range result {
			for _, s := range strs(got) {
				if s != "" && seen[unsafe.StringData(s)] {
					t.Errorf("result %d has the string %q of an argument", k, s)
				}
			}
		}
	}
}
