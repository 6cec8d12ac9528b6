package plan

import (
	"bytes"
	"fmt"
	"math"
	"math/rand"
	"reflect"
	"slices"
	"strings"
	"testing"
	"time"
	"unsafe"

	"creel/api"
	"creel/filter"
	"creel/link"
	"creel/meta"
	"creel/path"
	"creel/tree"
)

// owner is metadata with nothing wrong in it, and no field of value zero.
var owner = api.Meta{Mode: 0o644, UID: 1000, GID: 100, User: "ann", Group: "staff", Second: 1700000000, Nano: 5}

func xs(n int) string { return strings.Repeat("x", n) }

// dir, file, sym and hard are members of each kind.
func dir(s string) api.Entry { return api.Entry{Path: s, Kind: api.Dir} }

func file(s, data string) api.Entry {
	return api.Entry{Path: s, Kind: api.File, Data: []byte(data)}
}

func sym(s, target string) api.Entry { return api.Entry{Path: s, Kind: api.Sym, Target: target} }

func hard(s, target string) api.Entry { return api.Entry{Path: s, Kind: api.Link, Target: target} }

// node is what a member is in a tree, apart from links.
func node(x api.Entry) api.Node {
	return api.Node{Path: x.Path, Kind: x.Kind, Target: x.Target, Meta: x.Meta, Data: x.Data}
}

// linked is one of the files that are the same.
func linked(s string, same int, data string) api.Node {
	n := node(file(s, data))
	n.Same = same
	return n
}

// nodes of some members.
func nodes(l ...api.Entry) []api.Node {
	var t []api.Node
	for _, x := range l {
		t = append(t, node(x))
	}
	return t
}

func with(x api.Entry, changes ...func(*api.Entry)) api.Entry {
	for _, change := range changes {
		change(&x)
	}
	return x
}

func owned(x api.Entry) api.Entry {
	x.Meta = owner
	return x
}

// sample has members of every kind, files of one, two and three names, and something in every field.
func sample() []api.Entry {
	return []api.Entry{
		owned(dir("a")), owned(file("a/b", "one\x00")), dir("a/c"), owned(hard("a/c/d", "a/b")), file("a/c/e", ""), file("a/c/f", "one\x00"),
		owned(sym("a-b", "../a//\xff")), hard("b", "a/c/e"), owned(dir("c")), owned(hard("c/a", "a/b")),
	}
}

// sampleTree is the tree of the sample.
func sampleTree() []api.Node {
	same := func(x api.Entry, number int) api.Node {
		n := node(x)
		n.Same = number
		return n
	}
	return []api.Node{
		node(owned(dir("a"))), same(owned(file("a/b", "one\x00")), 2), node(dir("a/c")), same(owned(file("a/c/d", "one\x00")), 2), same(file("a/c/e", ""), 5),
		node(file("a/c/f", "one\x00")), node(owned(sym("a-b", "../a//\xff"))), same(file("b", ""), 5), node(owned(dir("c"))), same(owned(file("c/a", "one\x00")), 2),
	}
}

// wide has n directories at its top.
func wide(n int) []api.Entry {
	var l []api.Entry
	for i := range n {
		l = append(l, dir(fmt.Sprintf("d%05d", i)))
	}
	return l
}

// deep has n directories, each one in the one ahead of it.
func deep(n int) []api.Entry {
	var l []api.Entry
	for i := range n {
		l = append(l, dir("a"+strings.Repeat("/a", i)))
	}
	return l
}

// rules from texts: a sign, "+" for a rule that takes and "-" for one that does not, and a pattern.
func rules(texts ...string) []api.Rule {
	var l []api.Rule
	for _, s := range texts {
		l = append(l, api.Rule{Take: s[0] == '+', Pattern: s[1:]})
	}
	return l
}

// said is a list of members or nodes in one line, in which an empty list of bytes is like none.
func said(l any) string {
	var s strings.Builder
	switch l := l.(type) {
	case []api.Entry:
		for _, x := range l {
			fmt.Fprintf(&s, "{%.50q kind %d target %.50q meta %.200q data %.50q (%d)} ", x.Path, x.Kind, x.Target, fmt.Sprint(x.Meta), x.Data, len(x.Data))
		}
	case []api.Node:
		for _, n := range l {
			fmt.Fprintf(&s, "{%.50q kind %d same %d target %.50q meta %.200q data %.50q (%d)} ",
				n.Path, n.Kind, n.Same, n.Target, fmt.Sprint(n.Meta), n.Data, len(n.Data))
		}
	}
	return s.String()
}

func isEqual(a, b api.Entry) bool { return isEqualNode(node(a), node(b)) }

func isEqualNode(a, b api.Node) bool {
	data := bytes.Equal(a.Data, b.Data)
	a.Data, b.Data = nil, nil
	return data && reflect.DeepEqual(a, b)
}

func wantRight(t *testing.T, x api.Entry, want api.Errno) {
	t.Helper()
	if err := Right(x); err != want {
		t.Errorf("Right(%s) = %d, want %d", said([]api.Entry{x}), err, want)
	}
}

// wantCheck tells what Check returns, and with it the error of Tree.
func wantCheck(t *testing.T, l []api.Entry, want api.Errno) {
	t.Helper()
	if err := Check(l); err != want {
		t.Errorf("Check(%s) = %d, want %d", said(l), err, want)
	}
	if got, err := Tree(l); err != want || err != api.OK && len(got) > 0 {
		t.Errorf("Tree(%s) = %s, %d, want the error %d", said(l), said(got), err, want)
	}
}

func wantMake(t *testing.T, nodes []api.Node, r []api.Rule, want []api.Entry, wantErr api.Errno) {
	t.Helper()
	got, err := Make(nodes, r)
	if !slices.EqualFunc(got, want, isEqual) || err != wantErr {
		t.Errorf("Make(%s, %.300q) = %s, %d, want %s, %d", said(nodes), fmt.Sprint(r), said(got), err, said(want), wantErr)
	}
	if err := Check(got); err != api.OK {
		t.Errorf("Make(%s, %.300q) = %s, which are no members: %d", said(nodes), fmt.Sprint(r), said(got), err)
	}
}

func wantTree(t *testing.T, l []api.Entry, want ...api.Node) {
	t.Helper()
	got, err := Tree(l)
	if !slices.EqualFunc(got, want, isEqualNode) || err != api.OK {
		t.Errorf("Tree(%s) = %s, %d, want %s, 0", said(l), said(got), err, said(want))
	}
	if err := tree.Check(got); err != api.OK {
		t.Errorf("Tree(%s) = %s, which is no tree: %d", said(l), said(got), err)
	}
}

// P16.1
func TestRight(t *testing.T) {
	for _, x := range sample() {
		wantRight(t, x, api.OK)
	}
	for _, x := range []api.Entry{
		dir("a/b/c"), dir(xs(400)), file("a", ""), {Path: "a", Kind: api.File}, file("a", "\x00"), file("a", "\xff\x00\n"), file("a", xs(2000)),
		sym("a", "a"), sym("a", "."), sym("a", ".."), sym("a", "/"), sym("a", "//a/../"), sym("a", "b/"), sym("a", " "), sym("a", "\xff\x01\n"), sym("a", xs(400)),
		hard("a", "a"), hard("a", "a/b"), hard("b", "c"), hard("a", "..."), hard("a", "\xff\x01\n"), hard("a", xs(400)), hard(xs(400), "a"),
		with(dir("a"), func(x *api.Entry) { x.Data = []byte{} }), with(sym("a", "b"), func(x *api.Entry) { x.Data = []byte{} }),
		with(hard("a", "b"), func(x *api.Entry) { x.Data = []byte{} }),
		with(hard("a", "b"), func(x *api.Entry) {
			x.Meta = api.Meta{Mode: 4095, UID: 1 << 50, GID: 1 << 50, User: xs(60), Group: xs(60), Second: -1 << 40, Nano: 999999999}
		}),
	} {
		wantRight(t, x, api.OK)
	}
}

// P16.1: every size of what may be too long.
func TestRightSize(t *testing.T) {
	isOver := func(size, limit int) api.Errno {
		if size > limit {
			return api.ErrSize
		}
		return api.OK
	}
	for size := range 2100 {
		wantRight(t, file("a", xs(size)), isOver(size, 2000))
		wantRight(t, file("a", strings.Repeat("\x00", size)), isOver(size, 2000))
	}
	for size := 1; size < 450; size++ {
		for _, x := range []api.Entry{sym("a", xs(size)), hard("a", xs(size)), sym(xs(size), "a"), hard(xs(size), "a"), dir(xs(size)), file(xs(size), "")} {
			wantRight(t, x, isOver(size, 400))
		}
	}
	wantRight(t, sym("a", strings.Repeat("é", 200)), api.OK)
	wantRight(t, sym("a", strings.Repeat("é", 201)), api.ErrSize)
	for _, target := range []string{xs(100000), strings.Repeat("\x00", 401), strings.Repeat("/", 401), "/" + strings.Repeat("\x00", 400)} {
		wantRight(t, sym("a", target), api.ErrSize)
		wantRight(t, hard("a", target), api.ErrSize)
	}
}

// P16.1: a link is a kind of members, and nothing else is beside those of nodes.
func TestRightKind(t *testing.T) {
	for _, kind := range []int{math.MinInt, -1 << 32, -4, -2, -1, 0, 5, 6, 7, 8, 255, 257, 260, 1 << 32, 1<<32 + 1, 1<<32 + 4, math.MaxInt} {
		for _, target := range []string{"", "b", "\x00", xs(401)} {
			wantRight(t, api.Entry{Path: "a", Kind: kind, Target: target}, api.ErrKind)
			wantRight(t, api.Entry{Path: "a", Kind: kind, Target: target, Data: make([]byte, 2001)}, api.ErrKind)
		}
	}
}

// P16.1: what a member of one kind may not have, or must have.
func TestRightForm(t *testing.T) {
	for _, x := range []api.Entry{dir("a"), sym("a", "b"), hard("a", "b")} {
		for _, data := range []string{"x", "\x00", xs(2000), xs(2001)} {
			wantRight(t, with(x, func(x *api.Entry) { x.Data = []byte(data) }), api.ErrForm)
		}
	}
	for _, x := range []api.Entry{dir("a"), file("a", ""), file("a", "x"), file("a", xs(2001))} {
		for _, target := range []string{"a", "b", "/", "\x00", xs(400), xs(401)} {
			wantRight(t, with(x, func(x *api.Entry) { x.Target = target }), api.ErrForm)
		}
	}
	wantRight(t, sym("a", ""), api.ErrForm)
	wantRight(t, hard("a", ""), api.ErrForm)
	for place := range 400 {
		for _, target := range []string{xs(place) + "\x00", xs(place) + "\x00" + xs(399-place)} {
			wantRight(t, sym("a", target), api.ErrForm)
			wantRight(t, hard("a", target), api.ErrForm)
		}
	}
}

// P16.1: the target of a link is a path, that of a symbolic link need not be one.
func TestRightTarget(t *testing.T) {
	for _, target := range []string{"/", "/a", "a/", "a//b", ".", "..", "a/.", "./a", "a/../b", "//", strings.Repeat("a/", 200)} {
		wantRight(t, hard("a", target), api.ErrPath)
		wantRight(t, sym("a", target), api.OK)
	}
	for _, target := range []string{"a/\x00", "/\x00", "\x00/..", "..\x00"} {
		wantRight(t, hard("a", target), api.ErrForm)
		wantRight(t, sym("a", target), api.ErrForm)
	}
}

// wrong is a single thing that is wrong.
type wrong struct {
	err    api.Errno
	change func(*api.Entry)
}

// wrongOfAll are what may be wrong with a member of any kind, in the order in which they are checked.
var wrongOfAll = []wrong{
	{api.ErrSize, func(x *api.Entry) { x.Path = "" }},
	{api.ErrSize, func(x *api.Entry) { x.Path = xs(401) }},
	{api.ErrForm, func(x *api.Entry) { x.Path = "a//\x00" }},
	{api.ErrPath, func(x *api.Entry) { x.Path = "/a" }},
	{api.ErrPath, func(x *api.Entry) { x.Path = "a/../b" }},
	{api.ErrRange, func(x *api.Entry) { x.Meta.Mode = 4096 }},
	{api.ErrRange, func(x *api.Entry) { x.Meta.UID = -1 }},
	{api.ErrSize, func(x *api.Entry) { x.Meta.User = xs(61) }},
	{api.ErrForm, func(x *api.Entry) { x.Meta.Group = "\x00" }},
	{api.ErrRange, func(x *api.Entry) { x.Meta.Nano = 1000000000 }},
	{api.ErrKind, func(x *api.Entry) { x.Kind = 5 }},
}

// wrongOfKind are what else may be wrong with a member of one kind.
var wrongOfKind = []struct {
	right api.Entry
	l     []wrong
}{
	{file("a", "x"), []wrong{
		{api.ErrForm, func(x *api.Entry) { x.Target = xs(401) }},
		{api.ErrSize, func(x *api.Entry) { x.Data = make([]byte, 2001) }},
	}},
	{dir("a"), []wrong{
		{api.ErrForm, func(x *api.Entry) { x.Data = make([]byte, 2001) }},
		{api.ErrForm, func(x *api.Entry) { x.Target = xs(401) }},
	}},
	{sym("a", "b"), []wrong{
		{api.ErrForm, func(x *api.Entry) { x.Data = make([]byte, 2001) }},
		{api.ErrForm, func(x *api.Entry) { x.Target = "" }},
		{api.ErrSize, func(x *api.Entry) { x.Target = xs(400) + "\x00" }},
		{api.ErrForm, func(x *api.Entry) { x.Target = "/\x00" }},
	}},
	{hard("a", "b"), []wrong{
		{api.ErrForm, func(x *api.Entry) { x.Data = make([]byte, 2001) }},
		{api.ErrForm, func(x *api.Entry) { x.Target = "" }},
		{api.ErrSize, func(x *api.Entry) { x.Target = "/" + xs(399) + "\x00" }},
		{api.ErrForm, func(x *api.Entry) { x.Target = "/\x00" }},
		{api.ErrPath, func(x *api.Entry) { x.Target = "a/.." }},
	}},
}

// P16.1: of two things that are wrong, the one that is checked earlier counts. It is put in last, so that it stays where
// both are in one field.
func TestRightOrder(t *testing.T) {
	for _, c := range wrongOfKind {
		all := slices.Concat(wrongOfAll, c.l)
		wantRight(t, c.right, api.OK)
		for i, first := range all {
			wantRight(t, with(c.right, first.change), first.err)
			for _, later := range all[i+1:] {
				wantRight(t, with(c.right, later.change, first.change), first.err)
			}
		}
	}
	wantRight(t, api.Entry{}, api.ErrSize)
	wantRight(t, api.Entry{Path: "a"}, api.ErrKind)
}

// rightByWords is Right by the words of the promise: each condition by itself, in its order.
func rightByWords(x api.Entry) api.Errno {
	isLink := x.Kind == api.Link
	targetErr := path.Check(x.Target)
	for _, c := range []struct {
		isWrong bool
		err     api.Errno
	}{
		{path.Check(x.Path) != api.OK, path.Check(x.Path)},
		{meta.Check(x.Meta) != api.OK, meta.Check(x.Meta)},
		{x.Kind < 1 || x.Kind > 4, api.ErrKind},
		{x.Kind != api.File && len(x.Data) != 0, api.ErrForm},
		{(x.Kind == api.File || x.Kind == api.Dir) && len(x.Target) != 0, api.ErrForm},
		{(x.Kind == api.Sym || isLink) && len(x.Target) == 0, api.ErrForm},
		{len(x.Data) > 2000 || len(x.Target) > 400, api.ErrSize},
		{isLink && targetErr != api.OK, targetErr},
		{strings.Contains(x.Target, "\x00"), api.ErrForm},
	} {
		if c.isWrong {
			return c.err
		}
	}
	return api.OK
}

// P16.1: all members whose fields are from short lists.
func TestRightWords(t *testing.T) {
	seen := map[api.Errno]bool{}
	for _, s := range []string{"", "a", "a/b", "a/", "..", "\x00", xs(400), xs(401)} {
		for kind := -1; kind <= 6; kind++ {
			for _, target := range []string{"", "a", "a/b", "a/", "..", "\x00", "/\x00", xs(400), xs(401), xs(400) + "\x00", strings.Repeat("a/", 200)} {
				for _, m := range []api.Meta{{}, owner, {Mode: -1}, {User: xs(61)}, {Group: "\x00"}, {Second: 1<<40 + 1}} {
					for _, size := range []int{0, 1, 2000, 2001} {
						x := api.Entry{Path: s, Kind: kind, Target: target, Meta: m, Data: make([]byte, size)}
						want := rightByWords(x)
						seen[want] = true
						wantRight(t, x, want)
					}
				}
			}
		}
	}
	for _, err := range []api.Errno{api.OK, api.ErrSize, api.ErrKind, api.ErrForm, api.ErrRange, api.ErrPath} {
		if !seen[err] {
			t.Errorf("no member has the error %d", err)
		}
	}
}

// P16.2
func TestCheck(t *testing.T) {
	for _, l := range [][]api.Entry{
		nil,
		{},
		sample(),
		{dir("a")},
		{file("a", "x")},
		{sym("a", "b")},
		{dir("a"), file("a/b", "x"), hard("c", "a/b")},
		{dir("a"), dir("a/b"), dir("a/b/c"), file("a/b/c/d", "")},
		{dir("a"), file("a/z", ""), file("a-b", ""), file("ab", "")},
		{dir("a"), dir("a-b"), file("a-b/c", ""), hard("a-b/d", "a-b/c")},
		{file("B", ""), file("a", ""), file("\xff", "")},
		{file("a", "x"), hard("b", "a"), hard("c", "a"), hard("d", "a")},
		{file("a", "x"), file("b", "x"), hard("c", "b"), hard("d", "a")},
		{owned(file("a", "x")), owned(hard("b", "a"))},
		{dir("a"), file("a/b", ""), dir("c"), dir("c/d"), hard("c/d/e", "a/b")},
		{sym("a", "b"), sym("b", "a"), sym("c", "c"), owned(sym("d", "a"))},
	} {
		wantCheck(t, l, api.OK)
	}
}

// P16.2: the number of members counts first, whatever they are.
func TestCheckSize(t *testing.T) {
	for n := range 60 {
		want := api.OK
		if n > 40 {
			want = api.ErrSize
		}
		wantCheck(t, wide(n), want)
		wantCheck(t, deep(n), want)
	}
	wantCheck(t, make([]api.Entry, 41), api.ErrSize)
	wantCheck(t, make([]api.Entry, 5000), api.ErrSize)
	for _, x := range []api.Entry{dir("d00000"), dir("z/z"), {Path: "z"}, hard("z", "y")} {
		wantCheck(t, append(wide(40), x), api.ErrSize)
		wantCheck(t, append([]api.Entry{x}, wide(40)...), api.ErrSize)
	}
	l := append([]api.Entry{file("a", xs(2000))}, wide(38)...)
	wantCheck(t, append(l, hard("e", "a")), api.OK)
	wantCheck(t, append(l, hard("e", "b")), api.ErrLink)
}

// P16.2: what is wrong with a single member, at every place.
func TestCheckRight(t *testing.T) {
	for _, c := range wrongOfKind {
		for _, w := range slices.Concat(wrongOfAll, c.l) {
			x := with(c.right, w.change)
			wantCheck(t, []api.Entry{x}, w.err)
			for i := range 40 {
				l := wide(40)
				l[i] = x
				wantCheck(t, l, w.err)
			}
		}
	}
}

// P16.2: paths increase.
func TestCheckTwice(t *testing.T) {
	for _, l := range [][]api.Entry{
		{dir("a"), dir("a")},
		{dir("a"), file("a", "")},
		{file("a", ""), hard("a", "a")},
		{dir("b"), dir("a")},
		{dir("a"), dir("B")},
		{file("a-b", ""), dir("a"), file("a/b", "")},
		{dir("a"), file("a-b", ""), file("a/b", "")},
		{dir("a"), dir("b"), file("a/b", "")},
		{dir("a"), file("a/b", ""), dir("a")},
		{file("a", ""), file("b", ""), file("a", "")},
		{file("\xff", ""), file("a", "")},
		{file("b", ""), hard("a", "b")},
	} {
		wantCheck(t, l, api.ErrTwice)
	}
	for i := range 40 {
		for j := range i {
			l := wide(40)
			l[i], l[j] = l[j], l[i]
			wantCheck(t, l, api.ErrTwice)
			l[j] = l[i]
			wantCheck(t, l, api.ErrTwice)
		}
	}
}

// P16.2: what a path is in is a directory.
func TestCheckUp(t *testing.T) {
	for _, l := range [][]api.Entry{
		{file("a/b", "")},
		{dir("a/b")},
		{file("a", ""), file("a/b", "")},
		{sym("a", "b"), file("a/b", "")},
		{sym("a", "b"), dir("b"), file("b/c", ""), file("b/c/d", "")},
		{file("A", ""), hard("a", "A"), file("a/b", "")},
		{dir("a"), dir("a/b/c")},
		{dir("a"), file("a/b", ""), file("a/b/c", "")},
		{dir("a"), file("aa/b", "")},
		{dir("a"), file("a-b/c", "")},
		{dir("b"), file("c/b", "")},
		{dir("a"), file("a/b", ""), hard("c/d", "a/b")},
		{dir("a"), dir("b"), dir("b/a"), dir("b/b/a")},
	} {
		wantCheck(t, l, api.ErrUp)
	}
}

// P16.2: a link is to a file ahead of it that has the same metadata.
func TestCheckLink(t *testing.T) {
	for _, l := range [][]api.Entry{
		{hard("a", "b")},
		{hard("a", "a")},
		{hard("a", "b"), file("b", "")},
		{dir("a"), hard("b", "a")},
		{sym("a", "c"), hard("b", "a"), file("c", "")},
		{file("a", ""), hard("b", "a"), hard("c", "b")},
		{file("a", ""), hard("b", "a"), hard("c", "c")},
		{dir("a"), file("a/b", ""), hard("a/c", "b")},
		{file("a", ""), dir("b"), file("b/a", ""), hard("b/c", "c")},
		{file("a", ""), hard("b", "A")},
		{file("a", ""), hard("b", "a\xff")},
		{file("aa", ""), hard("b", "a")},
		{owned(file("a", "")), hard("b", "a")},
		{file("a", ""), owned(hard("b", "a"))},
		{owned(file("a", "")), file("b", ""), owned(hard("c", "b"))},
	} {
		wantCheck(t, l, api.ErrLink)
	}
}

// P16.2: each field of the metadata counts.
func TestCheckLinkMeta(t *testing.T) {
	for _, change := range []func(*api.Meta){
		func(m *api.Meta) { m.Mode++ }, func(m *api.Meta) { m.UID++ }, func(m *api.Meta) { m.GID++ }, func(m *api.Meta) { m.User += "x" },
		func(m *api.Meta) { m.Group = "" }, func(m *api.Meta) { m.Second-- }, func(m *api.Meta) { m.Nano = 0 },
	} {
		l := []api.Entry{owned(file("a", "x")), owned(hard("b", "a"))}
		wantCheck(t, l, api.OK)
		change(&l[1].Meta)
		wantCheck(t, l, api.ErrLink)
		change(&l[0].Meta)
		wantCheck(t, l, api.OK)
		l[1].Meta = owner
		wantCheck(t, l, api.ErrLink)
		// The metadata of another file, or of another link, make no difference.
		l = []api.Entry{file("A", "x"), owned(file("a", "x")), hard("b", "A"), owned(hard("c", "a"))}
		wantCheck(t, l, api.OK)
		change(&l[3].Meta)
		wantCheck(t, l, api.ErrLink)
	}
}

// P16.2: the first wrong member counts, and what is checked first of it.
func TestCheckOrder(t *testing.T) {
	for _, c := range []struct {
		l    []api.Entry
		want api.Errno
	}{
		{[]api.Entry{dir("b"), {Path: "a"}}, api.ErrKind},
		{[]api.Entry{dir("b"), {Path: "a/a"}}, api.ErrKind},
		{[]api.Entry{dir("b"), file("a/a", xs(2001))}, api.ErrSize},
		{[]api.Entry{dir("b"), hard("a/a", "/")}, api.ErrPath},
		{[]api.Entry{dir("b"), file("a/a", "")}, api.ErrTwice},
		{[]api.Entry{dir("b"), hard("a/a", "b")}, api.ErrTwice},
		{[]api.Entry{dir("b"), hard("a", "b")}, api.ErrTwice},
		{[]api.Entry{dir("b"), hard("c/a", "b")}, api.ErrUp},
		{[]api.Entry{dir("b"), hard("c", "b"), {}}, api.ErrLink},
		{[]api.Entry{dir("b"), dir("c/c"), {}}, api.ErrUp},
		{[]api.Entry{dir("b"), dir("a"), {}}, api.ErrTwice},
		{[]api.Entry{{Path: "a"}, {}}, api.ErrKind},
		{[]api.Entry{{Path: "a", Kind: api.Dir, Target: "b"}, dir("a")}, api.ErrForm},
		{[]api.Entry{hard("a", "b"), dir("a")}, api.ErrLink},
	} {
		wantCheck(t, c.l, c.want)
	}
}

// checkByWords is Check by the words of the promise, for lists of few members.
func checkByWords(l []api.Entry) api.Errno {
	for i, x := range l {
		isDirAhead := path.Up(x.Path) == ""
		isFileAhead := x.Kind != api.Link
		for _, before := range l[:i] {
			isDirAhead = isDirAhead || before.Kind == api.Dir && before.Path == path.Up(x.Path)
			isFileAhead = isFileAhead || before.Kind == api.File && before.Path == x.Target && before.Meta == x.Meta
		}
		switch {
		case Right(x) != api.OK:
			return Right(x)
		case i > 0 && path.Compare(l[i-1].Path, x.Path) != -1:
			return api.ErrTwice
		case !isDirAhead:
			return api.ErrUp
		case !isFileAhead:
			return api.ErrLink
		}
	}
	return api.OK
}

// treeByWords is Tree by the words of the promise, for valid members.
func treeByWords(l []api.Entry) []api.Node {
	t := nodes(l...)
	for i, x := range l {
		for j, target := range l {
			if x.Kind == api.Link && x.Target == target.Path {
				t[i] = api.Node{Path: x.Path, Kind: api.File, Same: j + 1, Meta: x.Meta, Data: target.Data}
				t[j].Same = j + 1
			}
		}
	}
	return t
}

// makeByWords is Make by the words of the promise, for a valid tree and valid rules.
func makeByWords(t []api.Node, r []api.Rule) []api.Entry {
	kept, _ := filter.Run(t, r)
	var l []api.Entry
	for i, n := range kept {
		x := api.Entry{Path: n.Path, Kind: n.Kind, Target: n.Target, Meta: n.Meta, Data: n.Data}
		for j := i - 1; j >= 0; j-- {
			if n.Same > 0 && kept[j].Same == n.Same {
				x.Kind, x.Target, x.Data = api.Link, kept[j].Path, nil
			}
		}
		l = append(l, x)
	}
	return l
}

// eachOf calls f with all lists of up to n members of a pool.
func eachOf(n int, pool []api.Entry, f func([]api.Entry)) {
	var more func(l []api.Entry)
	more = func(l []api.Entry) {
		f(l)
		if len(l) == n {
			return
		}
		for _, x := range pool {
			more(append(slices.Clone(l), x))
		}
	}
	more(nil)
}

// P16.2 and P16.4: all lists of few members, and the way from valid ones to their tree and back.
func TestShort(t *testing.T) {
	pool := []api.Entry{
		dir("a"), file("a", "x"), hard("a", "b"), dir("a/b"), file("a/b", "y"), owned(file("a/b", "y")), hard("a/b", "a"), file("a-b", ""), sym("b", "a"), hard("b", "a"),
		hard("b", "a/b"), owned(hard("b", "a/b")), hard("c", "a/b"), hard("c", "b"), hard("c", "a"), file("b", "z"), {Path: "c", Kind: api.Sym},
	}
	seen := map[api.Errno]int{}
	eachOf(4, pool, func(l []api.Entry) {
		want := checkByWords(l)
		seen[want]++
		wantCheck(t, l, want)
		if want == api.OK {
			made := treeByWords(l)
			wantTree(t, l, made...)
			wantMake(t, made, nil, l, api.OK)
		}
	})
	for _, err := range []api.Errno{api.OK, api.ErrForm, api.ErrTwice, api.ErrUp, api.ErrLink} {
		if seen[err] < 50 {
			t.Errorf("only %d lists have the error %d", seen[err], err)
		}
	}
}

// P16.3
func TestMake(t *testing.T) {
	wantMake(t, nil, nil, nil, api.OK)
	wantMake(t, []api.Node{}, []api.Rule{}, nil, api.OK)
	wantMake(t, nil, rules("-a"), nil, api.OK)
	wantMake(t, sampleTree(), nil, sample(), api.OK)
	wantMake(t, []api.Node{node(dir("a")), linked("a/b", 7, "x"), linked("c", 7, "x")}, nil, []api.Entry{dir("a"), file("a/b", "x"), hard("c", "a/b")}, api.OK)
	for _, x := range []api.Entry{dir("a"), file("a", ""), file("a", "x"), sym("a", "a"), sym("a", "/"), owned(dir("a")), owned(file("a", "\x00")), owned(sym("a", "b"))} {
		wantMake(t, nodes(x), nil, []api.Entry{x}, api.OK)
		wantMake(t, nodes(x), rules("-b", "-**", "+a"), []api.Entry{x}, api.OK)
		wantMake(t, nodes(x), rules("-a"), nil, api.OK)
	}
	wantMake(t, nodes(wide(40)...), nil, wide(40), api.OK)
	wantMake(t, nodes(deep(40)...), nil, deep(40), api.OK)
	wantMake(t, nodes(wide(40)...), rules("-**", "+d0000?"), wide(10), api.OK)
}

// P16.3: files that are the same, and what their numbers are.
func TestMakeSame(t *testing.T) {
	for _, same := range []int{1, 2, 3, 40, math.MaxInt} {
		wantMake(t, []api.Node{linked("a", same, "x")}, nil, []api.Entry{file("a", "x")}, api.OK)
		three := []api.Node{linked("a", same, ""), linked("b", same, ""), linked("c", same, "")}
		wantMake(t, three, nil, []api.Entry{file("a", ""), hard("b", "a"), hard("c", "a")}, api.OK)
	}
	// Two files of two names each, one in the other and one after the other.
	four := []api.Node{linked("a", 2, "x"), linked("b", 1, "y"), linked("c", 1, "y"), linked("d", 2, "x")}
	wantMake(t, four, nil, []api.Entry{file("a", "x"), file("b", "y"), hard("c", "b"), hard("d", "a")}, api.OK)
	four = []api.Node{linked("a", 2, "x"), linked("b", 1, "y"), linked("c", 2, "x"), linked("d", 1, "y")}
	wantMake(t, four, nil, []api.Entry{file("a", "x"), file("b", "y"), hard("c", "a"), hard("d", "b")}, api.OK)
	// Files of Same 0 are files of their own, as are files of other numbers, even if all else is equal.
	alone := []api.Node{linked("a", 0, "x"), linked("b", 0, "x"), linked("c", 1, "x"), linked("d", 2, "x")}
	wantMake(t, alone, nil, []api.Entry{file("a", "x"), file("b", "x"), file("c", "x"), file("d", "x")}, api.OK)
	// All nodes are one file.
	var all []api.Node
	var want []api.Entry
	for _, x := range wide(40) {
		n := linked(x.Path, 9, xs(2000))
		n.Meta = owner
		all, want = append(all, n), append(want, owned(hard(x.Path, "d00000")))
	}
	want[0] = owned(file("d00000", xs(2000)))
	wantMake(t, all, nil, want, api.OK)
}

// P16.3: the greatest path is that of a target too.
func TestMakeLongPath(t *testing.T) {
	long := strings.Repeat("a", 399)
	pair := []api.Node{linked(long+"a", 1, "x"), linked(long+"b", 1, "x")}
	wantMake(t, pair, nil, []api.Entry{file(long+"a", "x"), hard(long+"b", long+"a")}, api.OK)
}

// P16.3: only the selected nodes count, so that the first name of a file may be any of its names.
func TestMakeRules(t *testing.T) {
	l := []api.Node{
		node(dir("a")), linked("a/b", 7, "x"), linked("a/c", 7, "x"), node(dir("d")), linked("d/e", 7, "x"), linked("d/f", 3, "y"), linked("g", 3, "y"), linked("h", 7, "x"),
	}
	for _, c := range []struct {
		rules []api.Rule
		want  []api.Entry
	}{
		{nil, []api.Entry{dir("a"), file("a/b", "x"), hard("a/c", "a/b"), dir("d"), hard("d/e", "a/b"), file("d/f", "y"), hard("g", "d/f"), hard("h", "a/b")}},
		{rules("-a/b"), []api.Entry{dir("a"), file("a/c", "x"), dir("d"), hard("d/e", "a/c"), file("d/f", "y"), hard("g", "d/f"), hard("h", "a/c")}},
		{rules("-a/c"), []api.Entry{dir("a"), file("a/b", "x"), dir("d"), hard("d/e", "a/b"), file("d/f", "y"), hard("g", "d/f"), hard("h", "a/b")}},
		{rules("-a"), []api.Entry{dir("d"), file("d/e", "x"), file("d/f", "y"), hard("g", "d/f"), hard("h", "d/e")}},
		{rules("-a/*", "-d/*"), []api.Entry{dir("a"), dir("d"), file("g", "y"), file("h", "x")}},
		{rules("-*", "+h"), []api.Entry{file("h", "x")}},
		{rules("-**", "+a/b", "+h"), []api.Entry{file("h", "x")}},
		{rules("-**", "+a", "+a/b", "+h"), []api.Entry{dir("a"), file("a/b", "x"), hard("h", "a/b")}},
		{rules("-**"), nil},
	} {
		wantMake(t, l, c.rules, c.want, api.OK)
	}
}

// P16.3: the errors are those of filter.Run: those of the tree ahead of those of the rules, whatever is selected.
func TestMakeErrors(t *testing.T) {
	other := linked("b", 7, "x")
	other.Meta.Nano = 1
	wrongRules := map[api.Errno][]api.Rule{api.OK: rules("-**"), api.ErrForm: rules("+a", "+["), api.ErrSize: make([]api.Rule, 13)}
	for _, c := range []struct {
		l    []api.Node
		want api.Errno
	}{
		{nodes(wide(41)...), api.ErrSize},
		{make([]api.Node, 5000), api.ErrSize},
		{[]api.Node{node(dir("a")), node(dir(""))}, api.ErrSize},
		{[]api.Node{node(file("a", xs(2001)))}, api.ErrSize},
		{[]api.Node{linked("a", 7, "x"), linked("b", -1, "x")}, api.ErrForm},
		{nodes(dir("a"), dir("a/..")), api.ErrPath},
		{[]api.Node{{Path: "a", Kind: api.Dir, Meta: api.Meta{Mode: -1}}}, api.ErrRange},
		{nodes(file("a", ""), hard("b", "a")), api.ErrKind},
		{[]api.Node{{Path: "a"}}, api.ErrKind},
		{nodes(dir("b"), dir("a")), api.ErrTwice},
		{nodes(dir("a"), dir("a")), api.ErrTwice},
		{sampleTree()[1:], api.ErrUp},
		{[]api.Node{linked("a", 7, "x"), linked("b", 7, "y")}, api.ErrLink},
		{[]api.Node{linked("a", 7, "x"), other}, api.ErrLink},
	} {
		for _, r := range wrongRules {
			wantMake(t, c.l, r, nil, c.want)
		}
	}
	for want, r := range wrongRules {
		wantMake(t, nil, r, nil, want)
		wantMake(t, sampleTree(), r, nil, want)
	}
	wantMake(t, nil, []api.Rule{{}}, nil, filter.Check([]api.Rule{{}}))
}

// P16.4
func TestTree(t *testing.T) {
	wantTree(t, nil)
	wantTree(t, []api.Entry{})
	wantTree(t, sample(), sampleTree()...)
	wantTree(t, []api.Entry{dir("a"), file("a/b", "x"), hard("c", "a/b")}, node(dir("a")), linked("a/b", 2, "x"), linked("c", 2, "x"))
	for _, x := range []api.Entry{dir("a"), file("a", ""), file("a", "x"), sym("a", "a"), sym("a", "/"), owned(dir("a")), owned(file("a", "\x00")), owned(sym("a", "b"))} {
		wantTree(t, []api.Entry{x}, node(x))
	}
	wantTree(t, []api.Entry{file("a", "x"), file("b", "x"), sym("c", "a")}, node(file("a", "x")), node(file("b", "x")), node(sym("c", "a")))
	wantTree(t, wide(40), nodes(wide(40)...)...)
	wantTree(t, deep(40), nodes(deep(40)...)...)
}

// P16.4: links that are in one another, and one after the other.
func TestTreeLinks(t *testing.T) {
	wantTree(t, []api.Entry{file("a", "x"), file("b", "y"), hard("c", "b"), hard("d", "a")}, linked("a", 1, "x"), linked("b", 2, "y"), linked("c", 2, "y"), linked("d", 1, "x"))
	wantTree(t, []api.Entry{file("a", "x"), file("b", ""), hard("c", "a"), hard("d", "b")}, linked("a", 1, "x"), linked("b", 2, ""), linked("c", 1, "x"), linked("d", 2, ""))
	wantTree(t, []api.Entry{file("a", "x"), hard("b", "a"), hard("c", "a"), file("d", "x")}, linked("a", 1, "x"), linked("b", 1, "x"), linked("c", 1, "x"), linked("d", 0, "x"))
	own := owned(hard("b", "a"))
	own.Data = []byte{}
	want := []api.Node{linked("a", 1, "x"), linked("b", 1, "x")}
	want[0].Meta, want[1].Meta = owner, owner
	wantTree(t, []api.Entry{owned(file("a", "x")), own}, want...)
}

// P16.3 and P16.4: a link at every place, to a file at every place ahead of it.
func TestPlaces(t *testing.T) {
	for i := range 40 {
		for j := range i {
			l, want := wide(40), nodes(wide(40)...)
			l[j], l[i] = file(l[j].Path, "x"), hard(l[i].Path, l[j].Path)
			want[j], want[i] = linked(l[j].Path, j+1, "x"), linked(l[i].Path, j+1, "x")
			wantTree(t, l, want...)
			wantMake(t, want, nil, l, api.OK)
			wantMake(t, want, rules("-"+l[j].Path), slices.Concat(l[:j], l[j+1:i], []api.Entry{file(l[i].Path, "x")}, l[i+1:]), api.OK)
		}
	}
}

// randomTree is a tree of a few names, in which files of one number are the same.
func randomTree(random *rand.Rand) []api.Node {
	names := []string{"a", "b", "a-b", "a!", "\xff"}
	var l []api.Node
	for range 60 {
		s := names[random.Intn(5)]
		for random.Intn(2) == 0 {
			s += "/" + names[random.Intn(5)]
		}
		same := random.Intn(6)
		n := linked(s, same, fmt.Sprint(same%3))
		n.Meta.UID = same
		n = []api.Node{node(dir(s)), node(owned(dir(s))), node(sym(s, "a")), n, n}[random.Intn(5)]
		if next, err := tree.Put(l, n); err == api.OK {
			l = next
		}
	}
	return l
}

// P16.2 to P16.4: many trees with many rules, and the way to members and back.
func TestRandom(t *testing.T) {
	random := rand.New(rand.NewSource(16))
	patterns := []string{"**", "*", "a", "a/**", "?", "b/*", "**/a*", "[!a]", "\xff", "a-b/**/b"}
	links := 0
	for range 2000 {
		l := randomTree(random)
		var r []api.Rule
		for range random.Intn(5) {
			r = append(r, api.Rule{Take: random.Intn(2) == 0, Pattern: patterns[random.Intn(len(patterns))]})
		}
		members := makeByWords(l, r)
		wantMake(t, l, r, members, api.OK)
		wantTree(t, members, treeByWords(members)...)
		kept, _ := filter.Run(l, r)
		anew, _ := link.Anew(kept)
		wantTree(t, members, anew...)
		for i := range members {
			if members[i].Kind == api.Link {
				links++
			}
			changed := slices.Clone(members)
			changed[i] = []api.Entry{dir(members[i].Path), hard(members[i].Path, members[random.Intn(len(members))].Path), members[random.Intn(len(members))]}[random.Intn(3)]
			wantCheck(t, changed, checkByWords(changed))
			without := slices.Delete(slices.Clone(members), i, i+1)
			wantCheck(t, without, checkByWords(without))
		}
	}
	if links < 500 {
		t.Errorf("only %d links", links)
	}
}

// P16.2 to P16.4: the greatest sizes take no long time.
func TestSizes(t *testing.T) {
	var l []api.Entry
	for i := range 40 {
		l = append(l, hard(fmt.Sprintf("%s%02d", strings.Repeat("a", 398), i), strings.Repeat("a", 398)+"00"))
	}
	l[0] = file(l[0].Path, xs(2000))
	begin := time.Now()
	for range 100 {
		made, err := Tree(l)
		if err != api.OK {
			t.Fatal(err)
		}
		wantMake(t, made, nil, l, api.OK)
	}
	wantCheck(t, make([]api.Entry, 1<<20), api.ErrSize)
	wantRight(t, sym("a", strings.Repeat("\x00", 1<<26)), api.ErrSize)
	if d := time.Since(begin); d > 20*time.Second {
		t.Errorf("it took %s", d)
	}
}

// crowded are members at the start of a longer list, with something in the unused capacity of all lists. One list is the
// data of all files.
func crowded() []api.Entry {
	data := append(make([]byte, 0, 64), "one, and what is behind it"...)
	file := func(s string) api.Entry {
		return api.Entry{Path: s, Kind: api.File, Meta: owner, Data: data[:3]}
	}
	return []api.Entry{
		dir("a"), file("a/b"), owned(hard("a/c", "a/b")), file("a/d"), owned(hard("d", "a/b")), owned(hard("e", "a/d")), sym("f", "a/b"), file("0"), dir("1"),
	}[:7]
}

// crowdedTree is the tree of the crowded members, with something in the unused capacity of all lists.
func crowdedTree() []api.Node {
	l := crowded()
	t := treeByWords(l)
	return append(t, nodes(l[:9][7:]...)...)[:7]
}

// asNodes are the nodes of a list of nodes or members, up to its capacity.
func asNodes(l any) []api.Node {
	if l, ok := l.([]api.Entry); ok {
		return nodes(l[:cap(l)]...)
	}
	t := l.([]api.Node)
	return t[:cap(t)]
}

// room is all of a list, up to its capacity, and all of the lists in it; a later change of the list does not change it.
func room(l any) string {
	s := ""
	for _, n := range asNodes(l) {
		s += fmt.Sprintf("%q %q ", fmt.Sprint(n), n.Data[:cap(n.Data)])
	}
	return s
}

// scribble changes all that can be changed in a list, up to its capacity.
func scribble(l any) {
	for _, n := range asNodes(l) {
		for j := range n.Data[:cap(n.Data)] {
			n.Data[:cap(n.Data)][j] = '!'
		}
	}
	switch l := l.(type) {
	case []api.Entry:
		for i := range l[:cap(l)] {
			l[:cap(l)][i] = api.Entry{Path: "!"}
		}
	case []api.Node:
		for i := range l[:cap(l)] {
			l[:cap(l)][i] = api.Node{Path: "!"}
		}
	}
}

// P16.1 to P16.4: arguments are not changed, whether they are valid or not.
func TestArguments(t *testing.T) {
	for _, l := range [][]api.Entry{crowded(), crowded()[1:], crowded()[:8], wide(41)} {
		before := room(l)
		for _, x := range l {
			Right(x)
		}
		Check(l)
		Tree(l)
		if room(l) != before {
			t.Errorf("an argument was changed: %s", said(l))
		}
	}
	for _, l := range [][]api.Node{crowdedTree(), crowdedTree()[1:], crowdedTree()[:8], nodes(wide(41)...)} {
		for _, r := range [][]api.Rule{nil, rules("-a/b", "+b", "-c")[:1], rules("-**"), rules("+[")} {
			before, beforeRules := room(l), fmt.Sprint(r[:cap(r)])
			Make(l, r)
			if room(l) != before || fmt.Sprint(r[:cap(r)]) != beforeRules {
				t.Errorf("an argument was changed: %s, %q", said(l), fmt.Sprint(r))
			}
		}
	}
}

// wantOwnMemory tells that a result shares nothing with its argument or another result, and no two lists of it memory.
func wantOwnMemory(t *testing.T, one, other, argument any) {
	t.Helper()
	whole := room(one)
	scribble(other)
	scribble(argument)
	all := asNodes(one)
	if room(one) != whole || len(all) == 0 {
		t.Error("a result shares memory with the argument or another result")
	}
	for i, n := range all {
		others := slices.Clip(slices.Delete(slices.Clone(all), i, i+1))
		whole := room(others)
		for j := range n.Data[:cap(n.Data)] {
			n.Data[:cap(n.Data)][j]++
		}
		if room(others) != whole {
			t.Errorf("the data of element %d is that of another one too", i)
		}
	}
}

// P16.3 and P16.4: results are new memory.
func TestMemory(t *testing.T) {
	l := crowded()
	one, _ := Tree(l)
	other, _ := Tree(l)
	wantOwnMemory(t, one, other, l)
	for _, r := range [][]api.Rule{nil, rules("-a/b")} {
		nodes := crowdedTree()
		one, _ := Make(nodes, r)
		other, _ := Make(nodes, r)
		wantOwnMemory(t, one, other, nodes)
	}
}

// P16.3 and P16.4: strings are copied, so that no result keeps a longer string in memory of which one is a part.
func TestMemoryOfStrings(t *testing.T) {
	seen := map[*byte]bool{}
	wantNew := func(l any) {
		var strs []string
		for _, n := range asNodes(l) {
			strs = append(strs, n.Path, n.Target, n.Meta.User, n.Meta.Group)
		}
		for _, s := range strs {
			if s != "" && seen[unsafe.StringData(s)] {
				t.Errorf("the string %q is that of an argument or another result", s)
			}
		}
		for _, s := range strs {
			if s != "" {
				seen[unsafe.StringData(s)] = true
			}
		}
	}
	for _, s := range []string{"a/b", "a/d", owner.User, owner.Group} {
		seen[unsafe.StringData(s)] = true
	}
	l, nodes := crowded(), crowdedTree()
	for _, s := range []string{l[0].Path, l[1].Path, l[6].Target, nodes[0].Path, nodes[1].Path, nodes[2].Path, nodes[6].Target} {
		seen[unsafe.StringData(s)] = true
	}
	for range 2 {
		made, _ := Make(nodes, nil)
		wantNew(made)
		grown, _ := Tree(l)
		wantNew(grown)
	}
}
