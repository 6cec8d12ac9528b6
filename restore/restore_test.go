package restore

import (
	"bytes"
	"fmt"
	"math"
	"math/rand"
	"slices"
	"strings"
	"testing"
	"time"
	"unsafe"

	"creel/api"
	"creel/member"
	"creel/plan"
	"creel/read"
	"creel/tree"
	"creel/write"
)

// owner is metadata with nothing wrong in it, and no field of value zero; far has no room in a head.
var (
	owner = api.Meta{Mode: 0o644, UID: 1000, GID: 100, User: "ann", Group: "staff", Second: 1700000000, Nano: 5}
	far   = api.Meta{Mode: 0o7777, UID: 1 << 50, GID: 1 << 50, User: xs(60), Group: xs(60), Second: -1 << 40, Nano: 1}
)

func xs(n int) string { return strings.Repeat("x", n) }

func zeros(n int) string { return strings.Repeat("\x00", n) }

// dir, sym, file and linked are nodes of each kind; linked is one of the files that are the same.
func dir(s string) api.Node { return api.Node{Path: s, Kind: api.Dir} }

func sym(s, target string) api.Node { return api.Node{Path: s, Kind: api.Sym, Target: target} }

func file(s, data string) api.Node { return api.Node{Path: s, Kind: api.File, Data: []byte(data)} }

func linked(s string, same int, data string) api.Node {
	n := file(s, data)
	n.Same = same
	return n
}

// of is a node with other metadata.
func of(m api.Meta, n api.Node) api.Node {
	n.Meta = m
	return n
}

// few is the tree of the example of the whole system.
func few() []api.Node { return []api.Node{dir("a"), linked("a/b", 2, "x"), linked("c", 2, "x")} }

// sample has nodes of every kind, files of one, two and three names, and something in every field.
func sample() []api.Node {
	return []api.Node{
		of(owner, dir("a")), of(owner, linked("a/b", 2, "one\x00")), dir("a/c"), of(owner, linked("a/c/d", 2, "one\x00")), linked("a/c/e", 5, zeros(1100)),
		of(far, file("a/c/f", xs(512))), of(owner, sym("a-b", "../a//\xff")), linked("b", 5, zeros(1100)), of(far, dir("c")), of(owner, linked("c/a", 2, "one\x00")),
	}
}

// wide has n directories at its top.
func wide(n int) []api.Node {
	var l []api.Node
	for i := range n {
		l = append(l, dir(fmt.Sprintf("d%05d", i)))
	}
	return l
}

// great has as many nodes as there may be, each one as long as it may be.
func great() []api.Node {
	var l []api.Node
	for i := range api.MaxNodes {
		l = append(l, of(far, file(fmt.Sprintf("f%02d", i)+xs(397), xs(2000))))
	}
	return l
}

// raw are the bytes of members with an end, whether they may be together or not.
func raw(l ...api.Entry) []byte {
	var b []byte
	for _, x := range l {
		encoded, err := member.Write(x)
		if err != api.OK {
			panic(fmt.Sprintf("no member: %.300q", fmt.Sprint(x)))
		}
		b = append(b, encoded...)
	}
	return append(b, zeros(1024)...)
}

// packed is the archive of a tree.
func packed(l ...api.Node) []byte {
	members, err := plan.Make(l, nil)
	if err != api.OK {
		panic(fmt.Sprintf("no tree: %d, %.300q", err, said(l)))
	}
	b, _ := write.Archive(members)
	return b
}

// said is a list in one line, in which an empty list of bytes is like none.
func said(l []api.Node) string {
	var s strings.Builder
	for _, n := range l {
		fmt.Fprintf(&s, "%q%d", n.Path, n.Kind)
		if n.Same != 0 {
			fmt.Fprintf(&s, "=%d", n.Same)
		}
		if n.Target != "" {
			fmt.Fprintf(&s, ">%q", n.Target)
		}
		if n.Meta != (api.Meta{}) {
			fmt.Fprintf(&s, "(%q)", fmt.Sprint(n.Meta))
		}
		if len(n.Data) > 0 {
			fmt.Fprintf(&s, ":%q", n.Data)
		}
		s.WriteString(" ")
	}
	return s.String()
}

func wantTree(t *testing.T, b []byte, want []api.Node, wantErr api.Errno) {
	t.Helper()
	if got, err := Tree(b); said(got) != said(want) || err != wantErr {
		t.Errorf("Tree: %.500q, %d; want %.500q, %d", said(got), err, said(want), wantErr)
	}
}

func wantUnder(t *testing.T, l []api.Node, dir string, b []byte, want []api.Node, wantErr api.Errno) {
	t.Helper()
	got, err := Under(l, dir, b)
	if said(got) != said(want) || err != wantErr {
		t.Errorf("Under(%.300q, %.50q): %.500q, %d; want %.500q, %d", said(l), dir, said(got), err, said(want), wantErr)
	}
	if err == api.OK && tree.Check(got) != api.OK {
		t.Errorf("Under(%.300q, %.50q): no tree: %.500q", said(l), dir, said(got))
	}
}

func wantSome(t *testing.T, b []byte, s string, want []api.Node, wantErr api.Errno) {
	t.Helper()
	if got, err := Some(b, s); said(got) != said(want) || err != wantErr {
		t.Errorf("Some(%.50q): %.500q, %d; want %.500q, %d", s, said(got), err, said(want), wantErr)
	}
}

// trees are trees that may be, in which the files that are the same have the place of the first one, and 1.
func trees() [][]api.Node {
	l := [][]api.Node{nil, few(), sample(), great(), {of(far, file(xs(400), xs(2000)))}, {sym("s", xs(400))}, {linked("a", 1, ""), linked("b", 1, "")}}
	for n := range api.MaxNodes + 1 {
		l = append(l, wide(n))
	}
	return l
}

// P21.1
func TestTree(t *testing.T) {
	for _, l := range trees() {
		wantTree(t, packed(l...), l, api.OK)
	}
	wantTree(t, packed(linked("a", 7, "x"), linked("b", 9, "y"), linked("c", 7, "x")), []api.Node{linked("a", 1, "x"), file("b", "y"), linked("c", 1, "x")}, api.OK)
}

// wrongs are bytes that are no archives, with their errors.
func wrongs() map[api.Errno][][]byte {
	d, f := api.Entry{Path: "a", Kind: api.Dir}, api.Entry{Path: "a", Kind: api.File, Data: []byte("x")}
	hard := func(s, target string) api.Entry { return api.Entry{Path: s, Kind: api.Link, Target: target} }
	at := func(s string, x api.Entry) api.Entry {
		x.Path = s
		return x
	}
	many := make([]api.Entry, 41)
	for i := range many {
		many[i] = at(fmt.Sprintf("f%02d", i), f)
	}
	right := packed(few()...)
	owned := hard("b", "a")
	owned.Meta = owner
	return map[api.Errno][][]byte{
		api.ErrShort: {nil, []byte("x"), right[:511], right[:512], right[:1535], right[:2048], right[:2559]},
		api.ErrSum:   {bytes.Repeat([]byte("x"), 2048), slices.Concat(right[:512], bytes.Repeat([]byte("x"), 512), right[1024:]), append([]byte("b"), right[1:]...)},
		api.ErrForm:  {right[:3071], right[:2560], append(slices.Clone(right), 0), slices.Concat(right, right), make([]byte, 512), make([]byte, 1025), slices.Concat(right[:1100], []byte("x"), right[1101:])},
		api.ErrSize:  {raw(many...), raw(append(many, d)...)},
		api.ErrTwice: {raw(d, d), raw(d, f), raw(at("b", f), f), raw(at("a-b", d), d)},
		api.ErrUp:    {raw(at("a/b", d)), raw(f, at("a/b", f)), raw(d, at("a-b/c", f))},
		api.ErrLink:  {raw(hard("a", "b")), raw(d, hard("b", "a")), raw(f, hard("b", "a"), hard("c", "b")), raw(f, owned), raw(hard("a", "b"), at("b", f))},
	}
}

// P21.1 to P21.3: errors of read.Archive.
func TestWrong(t *testing.T) {
	for want, archives := range wrongs() {
		for i, b := range archives {
			if _, err := read.Archive(b); err != want {
				t.Fatalf("archive %d of error %d: read.Archive has %d", i, want, err)
			}
			wantTree(t, b, nil, want)
			wantUnder(t, few(), "a", b, nil, want)
			for _, s := range []string{"a", "b", "", "z"} {
				wantSome(t, b, s, nil, want)
			}
		}
	}
}

// P21.2: nodes are added.
func TestUnderNew(t *testing.T) {
	wantUnder(t, []api.Node{dir("r")}, "r", packed(), []api.Node{dir("r")}, api.OK)
	wantUnder(t, []api.Node{dir("r")}, "r", packed(few()...), []api.Node{dir("r"), dir("r/a"), linked("r/a/b", 3, "x"), linked("r/c", 3, "x")}, api.OK)
	wantUnder(t, few(), "a", packed(few()...), []api.Node{dir("a"), dir("a/a"), linked("a/a/b", 3, "x"), linked("a/b", 4, "x"), linked("a/c", 3, "x"), linked("c", 4, "x")}, api.OK)
	wantUnder(t, []api.Node{dir("a"), dir("a/b"), dir("a/b/c"), dir("a-b"), dir("b")}, "a/b", packed(of(owner, file("d", "x")), sym("e", "d")),
		[]api.Node{dir("a"), dir("a/b"), dir("a/b/c"), of(owner, file("a/b/d", "x")), sym("a/b/e", "d"), dir("a-b"), dir("b")}, api.OK)
	wantUnder(t, []api.Node{of(owner, dir("a")), sym("a/b", "c"), file("b", "y")}, "a", packed(dir("a"), dir("b")),
		[]api.Node{of(owner, dir("a")), dir("a/a"), dir("a/b"), file("b", "y")}, api.OK)
}

// P21.2: what has the path of a node goes, with everything in it, unless both are directories.
func TestUnderReplace(t *testing.T) {
	olds := [][]api.Node{
		{file("d/x", "old")}, {of(owner, file("d/x", ""))}, {sym("d/x", "old")}, {dir("d/x")}, {of(owner, dir("d/x")), file("d/x/a", "old"), dir("d/x/b"), sym("d/x/b/c", "old")},
		{linked("d/x", 3, "old"), linked("d/y", 3, "old")},
	}
	news := [][]api.Node{
		{file("x", "new")}, {of(far, file("x", ""))}, {sym("x", "new")}, {dir("x")}, {of(far, dir("x")), file("x/a", "new"), sym("x/b", "new"), dir("x/c")},
		{linked("x", 1, "new"), linked("z", 1, "new")},
	}
	want := [][]string{}
	for range olds {
		want = append(want, []string{
			`"d/x"1:"new"`, fmt.Sprintf(`"d/x"1(%q)`, fmt.Sprint(far)), `"d/x"3>"new"`, `"d/x"2`,
			fmt.Sprintf(`"d/x"2(%q) "d/x/a"1:"new" "d/x/b"3>"new" "d/x/c"2`, fmt.Sprint(far)), `"d/x"1=2:"new"`,
		})
	}
	want[4][3] = `"d/x"2 "d/x/a"1:"old" "d/x/b"2 "d/x/b/c"3>"old"`
	for i, before := range olds {
		for j, after := range news {
			l := slices.Concat([]api.Node{dir("d")}, before, []api.Node{dir("d-x"), file("d0", "other"), file("x", "other")})
			wanted := `"d"2 ` + want[i][j]
			if i == 5 {
				wanted += ` "d/y"1:"old"`
			}
			if j == 5 {
				wanted += ` "d/z"1=2:"new"`
			}
			wanted += ` "d-x"2 "d0"1:"other" "x"1:"other" `
			if got, err := Under(l, "d", packed(after...)); said(got) != wanted || err != api.OK {
				t.Errorf("Under(%.300q, d, %.300q): %.500q, %d; want %.500q", said(l), said(after), said(got), err, wanted)
			}
		}
	}
}

// P21.2: what is in a directory stays when both are directories, but for what is replaced itself, and what is beside it stays.
func TestUnderMerge(t *testing.T) {
	l := []api.Node{dir("d"), of(owner, dir("d/x")), file("d/x/a", "old"), dir("d/x/b"), file("d/x/b/c", "old"), file("d/x/b/d", "old"), file("d/x-y", "old"), file("d/xy", "old")}
	wantUnder(t, l, "d", packed(of(far, dir("x")), file("x/0", "new"), dir("x/b"), file("x/b/c", "new")),
		[]api.Node{dir("d"), of(far, dir("d/x")), file("d/x/0", "new"), file("d/x/a", "old"), dir("d/x/b"), file("d/x/b/c", "new"), file("d/x/b/d", "old"), file("d/x-y", "old"), file("d/xy", "old")}, api.OK)
	wantUnder(t, l, "d", packed(of(far, dir("x")), sym("x/b", "new")),
		[]api.Node{dir("d"), of(far, dir("d/x")), file("d/x/a", "old"), sym("d/x/b", "new"), file("d/x-y", "old"), file("d/xy", "old")}, api.OK)
	wantUnder(t, l, "d/x", packed(dir("x"), file("x/b", "new")), slices.Concat(l[:6], []api.Node{dir("d/x/x"), file("d/x/x/b", "new")}, l[6:]), api.OK)
}

// P21.2: restored files are the same file as each other alone, whatever the numbers are.
func TestUnderSame(t *testing.T) {
	b := packed(linked("a", 1, "x"), linked("b", 1, "x"), linked("c", 3, "x"), linked("d", 3, "x"), file("e", "x"))
	for _, one := range []int{1, 2, 3, 4, 39, 40, 41, 42, 43, 44, 80, 81, 82, 83, 1000, math.MaxInt - 41, math.MaxInt - 40, math.MaxInt - 1, math.MaxInt} {
		for _, two := range []int{1, 2, 3, 4, 40, 41, 43, 81, 83, math.MaxInt - 40, math.MaxInt} {
			if one == two {
				continue
			}
			l := []api.Node{linked("a", one, "x"), linked("b", two, "x"), dir("r"), linked("r/f", one, "x"), linked("r/g", two, "x"), file("s", "x")}
			wantUnder(t, l, "r", b, []api.Node{
				linked("a", 1, "x"), linked("b", 2, "x"), dir("r"), linked("r/a", 4, "x"), linked("r/b", 4, "x"), linked("r/c", 6, "x"), linked("r/d", 6, "x"), file("r/e", "x"),
				linked("r/f", 1, "x"), linked("r/g", 2, "x"), file("s", "x"),
			}, api.OK)
			// Other metadata and data, with which files that are not the same could not even have one number.
			for i := range l {
				l[i].Meta = owner
				l[i].Data = bytes.ReplaceAll(l[i].Data, []byte("x"), []byte("y"))
			}
			if got, err := Under(l, "r", b); len(got) != 11 || err != api.OK {
				t.Errorf("Under of trees with %d and %d: %.300q, %d", one, two, said(got), err)
			}
		}
	}
}

// P21.2: files of which all names but one are replaced are files of their own, and all is numbered anew.
func TestUnderAnew(t *testing.T) {
	l := []api.Node{linked("a", 7, "x"), linked("b", 5, "y"), dir("r"), linked("r/a", 7, "x"), linked("r/b", 5, "y"), linked("r/c", 5, "y"), linked("r/d", 9, "")}
	wantUnder(t, l, "r", packed(), []api.Node{linked("a", 1, "x"), linked("b", 2, "y"), dir("r"), linked("r/a", 1, "x"), linked("r/b", 2, "y"), linked("r/c", 2, "y"), file("r/d", "")}, api.OK)
	wantUnder(t, l, "r", packed(file("a", "x"), dir("b")), []api.Node{file("a", "x"), linked("b", 2, "y"), dir("r"), file("r/a", "x"), dir("r/b"), linked("r/c", 2, "y"), file("r/d", "")}, api.OK)
	wantUnder(t, l, "r", packed(linked("a", 1, "x"), linked("c", 1, "x")),
		[]api.Node{file("a", "x"), linked("b", 2, "y"), dir("r"), linked("r/a", 4, "x"), linked("r/b", 2, "y"), linked("r/c", 4, "x"), file("r/d", "")}, api.OK)
	wantUnder(t, l, "r", packed(linked("b", 1, "z"), linked("c", 1, "z")),
		[]api.Node{linked("a", 1, "x"), file("b", "y"), dir("r"), linked("r/a", 1, "x"), linked("r/b", 5, "z"), linked("r/c", 5, "z"), file("r/d", "")}, api.OK)
	// The first name in the archive is no more the first one of all, and its place is another one.
	wantUnder(t, []api.Node{dir("d"), linked("d/a", 3, "x"), linked("d/b", 3, "x"), dir("d/c")}, "d/c", packed(linked("a", 1, "x"), linked("b", 1, "x")),
		[]api.Node{dir("d"), linked("d/a", 2, "x"), linked("d/b", 2, "x"), dir("d/c"), linked("d/c/a", 5, "x"), linked("d/c/b", 5, "x")}, api.OK)
}

// P21.2: errors of tree.Check, ahead of all others.
func TestUnderNoTree(t *testing.T) {
	for want, trees := range map[api.Errno][][]api.Node{
		api.ErrSize:  {wide(41), append(wide(41), dir("a/b")), {dir("r"), file("s", xs(2001))}, {dir("")}, {dir(xs(401))}},
		api.ErrForm:  {{dir("r"), dir("s\x00")}, {dir("r"), linked("s", -1, "")}, {dir("r"), {Path: "s", Kind: api.Dir, Same: 1}}, {dir("r"), sym("s", "")}},
		api.ErrPath:  {{dir("r"), dir("r/")}, {dir("."), dir("r")}, {dir("r"), dir("r/..")}},
		api.ErrKind:  {{dir("r"), {Path: "s", Kind: api.Link, Target: "r"}}, {{Path: "r"}}},
		api.ErrRange: {{of(api.Meta{Mode: 4096}, dir("r"))}, {dir("r"), of(api.Meta{Nano: -1}, dir("s"))}},
		api.ErrTwice: {{dir("r"), dir("r")}, {dir("r"), file("r", "")}, {dir("s"), dir("r")}, {dir("r"), dir("r-s"), dir("r/s")}},
		api.ErrUp:    {{dir("r"), dir("s/t")}, {file("r", ""), dir("r/s")}},
		api.ErrLink:  {{dir("r"), linked("s", 1, "x"), linked("t", 1, "y")}, {dir("r"), linked("s", 1, "x"), of(owner, linked("t", 1, "x"))}},
	} {
		for _, l := range trees {
			for _, s := range []string{"r", "z", "s", ""} {
				for _, b := range [][]byte{packed(), packed(few()...), packed(great()...), nil, []byte("x")} {
					wantUnder(t, l, s, b, nil, want)
				}
			}
		}
	}
}

// P21.2: ErrNone, then ErrUp, both ahead of the errors of the archive.
func TestUnderNoDir(t *testing.T) {
	l := []api.Node{dir("a"), file("a/b", ""), sym("a/c", "a"), dir("a/d"), linked("b", 1, ""), linked("c", 1, ""), sym("s", "a")}
	archives := [][]byte{packed(), packed(few()...), packed(wide(40)...), nil, []byte("x"), make([]byte, 2000), raw(api.Entry{Path: "a/b", Kind: api.Dir})}
	for _, b := range archives {
		for _, s := range []string{"", "/", ".", "..", "a/", "/a", "a//d", "./a", "a/d/", "a/d/e", "A", "d", "z", "a\x00", xs(401), xs(1 << 20)} {
			wantUnder(t, l, s, b, nil, api.ErrNone)
			wantUnder(t, nil, s, b, nil, api.ErrNone)
		}
		for _, s := range []string{"a/b", "a/c", "b", "c", "s"} {
			wantUnder(t, l, s, b, nil, api.ErrUp)
		}
	}
}

// P21.2: errors of tree.Put, for paths that are too long.
func TestUnderLong(t *testing.T) {
	for _, n := range []int{1, 2, 100, 397, 398} {
		l := []api.Node{dir("a"), dir(xs(n)), dir("y")}
		for _, size := range []int{1, 398 - n, 399 - n, 400 - n, 401 - n, 399, 400} {
			if size < 1 {
				continue
			}
			inner := strings.Repeat("y", size)
			for _, x := range []api.Node{dir(inner), file(inner, "x"), sym(inner, "x")} {
				want, wantErr := []api.Node{l[0], l[1], x, l[2]}, api.OK
				want[2].Path = l[1].Path + "/" + inner
				if n+1+size > 400 {
					want, wantErr = nil, api.ErrSize
				}
				wantUnder(t, l, l[1].Path, packed(x), want, wantErr)
			}
		}
	}
}

// P21.2: errors of tree.Put, for trees that are too great, even if only until nodes that are removed later are gone.
func TestUnderMany(t *testing.T) {
	for n := 1; n <= 40; n++ {
		for k := range 42 - n {
			l := append([]api.Node{dir("a")}, wide(n-1)...)
			want, wantErr := slices.Concat(l[:1], moveAll("a", wide(k)), l[1:]), api.OK
			if n+k > 40 {
				want, wantErr = nil, api.ErrSize
			}
			wantUnder(t, l, "a", packed(wide(k)...), want, wantErr)
		}
	}
	full := append([]api.Node{dir("a"), dir("a/b"), file("a/b/c", ""), file("a/c", "")}, wide(36)...)
	wantUnder(t, full, "a", packed(), full, api.OK)
	wantUnder(t, full, "a", packed(dir("d")), nil, api.ErrSize)
	wantUnder(t, full, "a", packed(file("c", "x")), slices.Concat(full[:3], []api.Node{file("a/c", "x")}, full[4:]), api.OK)
	wantUnder(t, full, "a", packed(dir("b"), sym("b/c", "x"), dir("c")), slices.Concat(full[:2], []api.Node{sym("a/b/c", "x"), dir("a/c")}, full[4:]), api.OK)
	wantUnder(t, full, "a", packed(file("b", ""), dir("d")), slices.Concat(full[:1], []api.Node{file("a/b", ""), full[3], dir("a/d")}, full[4:]), api.OK)
	wantUnder(t, full, "a", packed(dir("a"), file("b", "")), nil, api.ErrSize)
	wantUnder(t, full, "a", packed(file("b", ""), dir("d"), dir("e")), nil, api.ErrSize)
	wantUnder(t, full, "a", packed(great()...), nil, api.ErrSize)
	wantUnder(t, []api.Node{dir("r")}, "r", packed(wide(39)...), slices.Concat([]api.Node{dir("r")}, moveAll("r", wide(39))), api.OK)
	wantUnder(t, []api.Node{dir("r")}, "r", packed(wide(40)...), nil, api.ErrSize)
}

// moveAll moves nodes into a directory.
func moveAll(dir string, l []api.Node) []api.Node {
	moved := slices.Clone(l)
	for i := range moved {
		moved[i].Path = dir + "/" + moved[i].Path
	}
	return moved
}

// named is a node of a tree, with the name of its file.
type named struct {
	api.Node
	name string
}

// names of the files in a tree, which are the same as others in the tree alone.
func names(tree string, l []api.Node) []named {
	var all []named
	for i, n := range l {
		name := fmt.Sprint(tree, " ", i)
		if n.Same > 0 {
			name = fmt.Sprint(tree, " same ", n.Same)
		}
		all = append(all, named{n, name})
	}
	return all
}

// isIn tells by the parts of paths whether one is another one, or in it.
func isIn(s, other string) bool {
	parts, others := strings.Split(s, "/"), strings.Split(other, "/")
	return len(parts) >= len(others) && slices.Equal(parts[:len(others)], others)
}

// underByWords is what Under returns by the words of P21.2, for a tree with the directory. Its nodes have no order until the end.
func underByWords(t []api.Node, dir string, archive []api.Node) ([]api.Node, api.Errno) {
	all := names("t", t)
	for _, n := range names("archive", archive) {
		n.Path = dir + "/" + n.Path
		if i := slices.IndexFunc(all, func(o named) bool { return o.Path == n.Path }); i >= 0 {
			if all[i].Kind == api.Dir && n.Kind == api.Dir {
				all = slices.Delete(all, i, i+1)
			} else {
				all = slices.DeleteFunc(all, func(o named) bool { return isIn(o.Path, n.Path) })
			}
		}
		all = append(all, n)
		if len(all) > 40 || len(n.Path) > 400 {
			return nil, api.ErrSize
		}
	}
	slices.SortFunc(all, func(a, b named) int { return slices.Compare(strings.Split(a.Path, "/"), strings.Split(b.Path, "/")) })
	var l []api.Node
	for _, n := range all {
		var places []int
		for i, o := range all {
			if o.name == n.name {
				places = append(places, i)
			}
		}
		n.Same = 0
		if len(places) > 1 {
			n.Same = places[0] + 1
		}
		l = append(l, n.Node)
	}
	return l, api.OK
}

// someByWords is what Some returns by the words of P21.3, for a path that is in the tree of the archive.
func someByWords(l []api.Node, s string) []api.Node {
	return slices.DeleteFunc(slices.Clone(l), func(n api.Node) bool { return !isIn(n.Path, s) && !isIn(s, n.Path) })
}

// randomTree is a tree of a few names, in which files of one number are the same.
func randomTree(random *rand.Rand, size int) []api.Node {
	names := []string{"a", "b", "a-b", "\xff", strings.Repeat("é", 45)}
	offset := random.Intn(50)
	var l []api.Node
	for range size {
		s := names[random.Intn(len(names))]
		for random.Intn(2) == 0 {
			s += "/" + names[random.Intn(len(names))]
		}
		same := random.Intn(6)
		n := linked(s, same, fmt.Sprint(same%3))
		n.Meta.UID = same % 2
		if same > 0 {
			n.Same += offset
		}
		n = []api.Node{dir(s), of(owner, dir(s)), dir(s), sym(s, "a"), n, n}[random.Intn(6)]
		if next, err := tree.Put(l, n); err == api.OK {
			l = next
		}
	}
	return l
}

// P21.1 to P21.3: random trees and archives.
func TestRandom(t *testing.T) {
	random := rand.New(rand.NewSource(21))
	counts := map[api.Errno]int{}
	changed := 0
	for range 300 {
		l, other := randomTree(random, random.Intn(240)), randomTree(random, random.Intn(120))
		b := packed(other...)
		anew, _ := underByWords(other, "", nil)
		wantTree(t, b, anew, api.OK)
		archive, _ := Tree(b)
		for _, n := range l {
			if n.Kind != api.Dir {
				wantUnder(t, l, n.Path, b, nil, api.ErrUp)
				continue
			}
			want, wantErr := underByWords(l, n.Path, archive)
			wantUnder(t, l, n.Path, b, want, wantErr)
			counts[wantErr]++
			if wantErr == api.OK && len(want) < len(l)+len(archive) {
				changed++
			}
		}
		for _, n := range append(l, archive...) {
			want, wantErr := someByWords(archive, n.Path), api.OK
			if !slices.ContainsFunc(archive, func(o api.Node) bool { return o.Path == n.Path }) {
				want, wantErr = nil, api.ErrNone
			}
			wantSome(t, b, n.Path, want, wantErr)
		}
	}
	if counts[api.OK] < 1500 || counts[api.ErrSize] < 150 || changed < 500 {
		t.Errorf("the trees are too much alike: %v, %d", counts, changed)
	}
}

// P21.3
func TestSome(t *testing.T) {
	b := packed(few()...)
	wantSome(t, b, "a", few()[:2], api.OK)
	wantSome(t, b, "a/b", few()[:2], api.OK)
	wantSome(t, b, "c", few()[2:], api.OK)
	l := sample()
	b = packed(l...)
	wantSome(t, b, "a", l[:6], api.OK)
	wantSome(t, b, "a/b", l[:2], api.OK)
	wantSome(t, b, "a/c", slices.Concat(l[:1], l[2:6]), api.OK)
	wantSome(t, b, "a/c/d", []api.Node{l[0], l[2], l[3]}, api.OK)
	wantSome(t, b, "a/c/f", []api.Node{l[0], l[2], l[5]}, api.OK)
	wantSome(t, b, "a-b", l[6:7], api.OK)
	wantSome(t, b, "b", l[7:8], api.OK)
	wantSome(t, b, "c", l[8:], api.OK)
	wantSome(t, b, "c/a", l[8:], api.OK)
	l = []api.Node{dir("a"), dir("a/a"), dir("a/a/a"), file("a/a/a/a", ""), dir("a/b"), file("a/b/a", ""), dir("ab"), file("ab/a", "")}
	b = packed(l...)
	wantSome(t, b, "a/a", l[:4], api.OK)
	wantSome(t, b, "a/a/a", l[:4], api.OK)
	wantSome(t, b, "a/a/a/a", l[:4], api.OK)
	wantSome(t, b, "a/b", []api.Node{l[0], l[4], l[5]}, api.OK)
	wantSome(t, b, "ab", l[6:], api.OK)
	wantSome(t, packed(great()...), "f07"+xs(397), great()[7:8], api.OK)
}

// P21.3: a path that is not there.
func TestSomeNone(t *testing.T) {
	for _, s := range []string{"", "/", ".", "..", "a/", "/a", "./a", "a//b", "a/b/", "a/b/c", "A", "a/", "a/c/", "a/c/d/x", "a/c/g", "a-", "a-b/", "a/b\x00", "d", "\xff", xs(400), xs(401), xs(1 << 20)} {
		wantSome(t, packed(sample()...), s, nil, api.ErrNone)
		wantSome(t, packed(), s, nil, api.ErrNone)
	}
}

// crowded is the sample in directories, at the start of a longer list, with something in the unused capacity of all lists. One
// list is the data of all files.
func crowded() []api.Node {
	data := append(make([]byte, 0, 64), "one, and what is behind it"...)
	l := append(slices.Concat([]api.Node{dir("r")}, moveAll("r", sample()), []api.Node{file("r/x", ""), of(owner, linked("s", 2, ""))}), sample()...)
	for i := range l {
		if l[i].Kind == api.File {
			l[i].Meta = owner
			l[i].Data = data[:3]
		}
	}
	return l[:len(sample())+3]
}

// room is all of a list, up to its capacity, and all of the lists in it; a later change of the list does not change it.
func room(l []api.Node) string {
	s := ""
	for _, n := range l[:cap(l)] {
		s += fmt.Sprintf("%q %q ", fmt.Sprint(n), n.Data[:cap(n.Data)])
	}
	return s
}

// scribble changes all that can be changed in a list, up to its capacity.
func scribble(l []api.Node) {
	for i, n := range l[:cap(l)] {
		for j := range n.Data[:cap(n.Data)] {
			n.Data[:cap(n.Data)][j] = '!'
		}
		l[:cap(l)][i] = api.Node{Path: "!"}
	}
}

// results are what the functions return for a tree and an archive.
func results(l []api.Node, b []byte) [][]api.Node {
	whole, _ := Tree(b)
	under, _ := Under(l, "r", b)
	none, _ := Under(l, "r", packed())
	some, _ := Some(b, "a/c")
	return [][]api.Node{whole, under, none, some}
}

// P21.1 to P21.3: arguments are not changed, whether they are valid or not.
func TestArguments(t *testing.T) {
	valid := string(packed(sample()...))
	for _, text := range []string{valid, valid[:512], valid[:len(valid)-1], valid + "x", "", "x"} {
		for _, l := range [][]api.Node{crowded(), crowded()[1:], crowded()[:len(crowded())+1], wide(41)} {
			b := []byte(text + "some more" + valid)
			before, beforeBytes := room(l), string(b)
			b = b[:len(text)]
			results(l, b)
			Under(l, "r/x", b)
			Some(b, "z")
			if room(l) != before || string(b[:len(beforeBytes)]) != beforeBytes {
				t.Errorf("an argument was changed: %.300q", said(l))
			}
		}
	}
}

// P21.1 to P21.3: results share nothing with arguments or with those of other calls, and no two lists of one of them memory.
func TestMemory(t *testing.T) {
	for k := range results(crowded(), packed(sample()...)) {
		l, b := crowded(), packed(sample()...)
		all, others := results(l, b), results(l, b)
		whole := room(all[k])
		for i := range all {
			scribble(others[i])
			if i != k {
				scribble(all[i])
			}
		}
		scribble(l)
		copy(b, bytes.Repeat([]byte("!"), len(b)))
		if room(all[k]) != whole || len(all[k]) == 0 {
			t.Errorf("result %d shares memory with an argument or another result", k)
		}
		for i, n := range all[k] {
			rest := slices.Clip(slices.Delete(slices.Clone(all[k]), i, i+1))
			before := room(rest)
			for j := range n.Data[:cap(n.Data)] {
				n.Data[:cap(n.Data)][j]++
			}
			if room(rest) != before {
				t.Errorf("the data of node %d of result %d is that of another node too", i, k)
			}
		}
	}
}

// P21.2 and P21.3: strings are copied, so that no result keeps a longer string in memory of which one is a part.
func TestMemoryOfStrings(t *testing.T) {
	l, b := crowded(), packed(sample()...)
	strs := func(n api.Node) []string { return []string{n.Path, n.Target, n.Meta.User, n.Meta.Group} }
	dir, s := "r and more"[:1], "a/c and more"[:3]
	seen := map[*byte]bool{unsafe.StringData(dir): true, unsafe.StringData(s): true}
	for _, n := range l {
		for _, s := range strs(n) {
			if s != "" {
				seen[unsafe.StringData(s)] = true
			}
		}
	}
	under, _ := Under(l, dir, b)
	none, _ := Under(l, dir, packed())
	some, _ := Some(b, s)
	for k, result := range [][]api.Node{under, none, some} {
		for _, n := range result {
			for _, s := range strs(n) {
				if s != "" && seen[unsafe.StringData(s)] {
					t.Errorf("result %d has the string %q of an argument", k, s)
				}
			}
		}
	}
}

// P21.1 to P21.3: no argument takes long.
func TestLong(t *testing.T) {
	begin := time.Now()
	long := make([]byte, 1<<26)
	wantTree(t, long, nil, api.ErrForm)
	wantUnder(t, few(), "a", long, nil, api.ErrForm)
	wantUnder(t, make([]api.Node, 1<<20), "a", packed(), nil, api.ErrSize)
	wantSome(t, long, "a", nil, api.ErrForm)
	for range 30 {
		wantUnder(t, append(great()[:20], dir("r")), "r", packed(wide(19)...), slices.Concat(great()[:20], []api.Node{dir("r")}, moveAll("r", wide(19))), api.OK)
	}
	if d := time.Since(begin); d > 20*time.Second {
		t.Errorf("it took %s", d)
	}
}
