package link

import (
	"bytes"
	"fmt"
	"math"
	"math/rand"
	"reflect"
	"slices"
	"strings"
	"testing"
	"time"
	"unsafe"

	"creel/api"
	"creel/tree"
)

func dir(s string) api.Node { return api.Node{Path: s, Kind: api.Dir} }

func sym(s string) api.Node { return api.Node{Path: s, Kind: api.Sym, Target: "a"} }

func file(s, data string) api.Node { return api.Node{Path: s, Kind: api.File, Data: []byte(data)} }

// linked is one of the files that are the same.
func linked(s string, same int, data string) api.Node {
	return api.Node{Path: s, Kind: api.File, Same: same, Data: []byte(data)}
}

// files of an increasing path each, with these numbers as their Same.
func files(sames ...int) []api.Node {
	var l []api.Node
	for i, same := range sames {
		l = append(l, linked(fmt.Sprintf("f%05d", i), same, "x"))
	}
	return l
}

// wide has n directories at its top.
func wide(n int) []api.Node {
	var l []api.Node
	for i := range n {
		l = append(l, dir(fmt.Sprintf("d%05d", i)))
	}
	return l
}

// sample has files of one, two and three names, in several directories, and files that are equal but not the same.
func sample() []api.Node {
	return []api.Node{
		linked("A", 5, ""), dir("a"), linked("a/b", 9, "x"), dir("a/c"), linked("a/c/d", 2, "y"), linked("a/c/e", 9, "x"), sym("a/d"), linked("a-", 1, "x"),
		file("b", "x"), file("c", "x"), linked("d", 2, "y"), linked("e", 9, "x"), linked("f", math.MaxInt, "y"),
	}
}

// said is a list in one line, with every byte that is no text escaped.
func said(l any) string { return fmt.Sprintf("%.300q", fmt.Sprint(l)) }

func isEqual(a, b api.Node) bool {
	data := bytes.Equal(a.Data, b.Data)
	a.Data, b.Data = nil, nil
	return data && reflect.DeepEqual(a, b)
}

func wantNumbers(t *testing.T, name string, f func([]api.Node) ([]int, api.Errno), l []api.Node, want []int, wantErr api.Errno) {
	t.Helper()
	if got, err := f(l); !slices.Equal(got, want) || err != wantErr {
		t.Errorf("%s(%s) = %d, %d, want %d, %d", name, said(l), got, err, want, wantErr)
	}
}

func wantFirsts(t *testing.T, l []api.Node, want ...int) {
	t.Helper()
	wantNumbers(t, "Firsts", Firsts, l, want, api.OK)
}

func wantNames(t *testing.T, l []api.Node, want ...int) {
	t.Helper()
	wantNumbers(t, "Names", Names, l, want, api.OK)
}

// wantAnew tells the Same of each node; all else stays as it is.
func wantAnew(t *testing.T, l []api.Node, want ...int) {
	t.Helper()
	all := slices.Clone(l)
	if len(want) != len(l) {
		t.Fatalf("%d numbers for %d nodes", len(want), len(l))
	}
	for i := range all {
		all[i].Same = want[i]
	}
	got, err := Anew(l)
	if !slices.EqualFunc(got, all, isEqual) || err != api.OK {
		t.Errorf("Anew(%s) = %s, %d, want %s, 0", said(l), said(got), err, said(all))
	}
	if err := tree.Check(got); err != api.OK {
		t.Errorf("Anew(%s) = %s, which is no tree: %d", said(l), said(got), err)
	}
}

// wantError tells the error of all functions.
func wantError(t *testing.T, l []api.Node, want api.Errno) {
	t.Helper()
	wantNumbers(t, "Firsts", Firsts, l, nil, want)
	wantNumbers(t, "Names", Names, l, nil, want)
	if got, err := Anew(l); len(got) > 0 || err != want {
		t.Errorf("Anew(%s) = %s, %d, want nothing, %d", said(l), said(got), err, want)
	}
}

// P15.1
func TestFirsts(t *testing.T) {
	wantFirsts(t, nil)
	wantFirsts(t, []api.Node{})
	wantFirsts(t, files(7), 0)
	wantFirsts(t, files(7, 7), 0, 0)
	wantFirsts(t, files(7, 8), 0, 1)
	wantFirsts(t, files(8, 7), 0, 1)
	wantFirsts(t, files(7, 3, 7), 0, 1, 0)
	wantFirsts(t, files(3, 7, 7, 3, 3, 7), 0, 1, 1, 0, 0, 1)
	wantFirsts(t, []api.Node{linked("a", 7, "x"), file("b", "x"), linked("c", 7, "x")}, 0, 1, 0)
	wantFirsts(t, sample(), 0, 1, 2, 3, 4, 2, 6, 7, 8, 9, 4, 2, 12)
	wantFirsts(t, sample()[7:], 0, 1, 2, 3, 4, 5)
}

// P15.1: nodes of Same 0 are files of their own, even if all else is equal, and wherever they are.
func TestFirstsAlone(t *testing.T) {
	wantFirsts(t, files(0, 0, 0), 0, 1, 2)
	wantFirsts(t, files(0, 1, 0, 1, 0), 0, 1, 2, 1, 4)
	wantFirsts(t, files(1, 0, 0, 1, 1), 0, 1, 2, 0, 0)
	wantFirsts(t, []api.Node{dir("a"), dir("a/b"), sym("a/c"), dir("b"), sym("c"), file("d", "")}, 0, 1, 2, 3, 4, 5)
	want := make([]int, 40)
	for i := range want {
		want[i] = i
	}
	wantFirsts(t, wide(40), want...)
	wantFirsts(t, files(make([]int, 40)...), want...)
}

// P15.2
func TestNames(t *testing.T) {
	wantNames(t, nil)
	wantNames(t, []api.Node{})
	wantNames(t, files(7), 1)
	wantNames(t, files(7, 7), 2, 2)
	wantNames(t, files(7, 8), 1, 1)
	wantNames(t, files(7, 3, 7), 2, 1, 2)
	wantNames(t, files(3, 7, 7, 3, 3, 7, 1), 3, 3, 3, 3, 3, 3, 1)
	wantNames(t, []api.Node{linked("a", 7, "x"), file("b", "x"), linked("c", 7, "x")}, 2, 1, 2)
	wantNames(t, sample(), 1, 1, 3, 1, 2, 3, 1, 1, 1, 1, 2, 3, 1)
	wantNames(t, sample()[7:], 1, 1, 1, 1, 1, 1)
}

// P15.2: a node of Same 0 counts itself alone.
func TestNamesAlone(t *testing.T) {
	wantNames(t, files(0, 0, 0), 1, 1, 1)
	wantNames(t, files(0, 1, 0, 1, 0), 1, 2, 1, 2, 1)
	wantNames(t, []api.Node{dir("a"), dir("a/b"), sym("a/c"), dir("b"), sym("c"), file("d", "")}, 1, 1, 1, 1, 1, 1)
	wantNames(t, wide(40), slices.Repeat([]int{1}, 40)...)
	wantNames(t, files(make([]int, 40)...), slices.Repeat([]int{1}, 40)...)
}

// P15.3
func TestAnew(t *testing.T) {
	wantAnew(t, nil)
	wantAnew(t, []api.Node{})
	wantAnew(t, []api.Node{linked("a", 7, "x"), dir("b"), linked("c", 7, "x")}, 1, 0, 1)
	wantAnew(t, files(0), 0)
	wantAnew(t, files(0, 7, 7), 0, 2, 2)
	wantAnew(t, files(7, 3, 7), 1, 0, 1)
	wantAnew(t, files(3, 7, 7, 3, 3, 7), 1, 2, 2, 1, 1, 2)
	wantAnew(t, sample(), 0, 0, 3, 0, 5, 3, 0, 0, 0, 0, 5, 3, 0)
	wantAnew(t, wide(40), make([]int, 40)...)
	wantAnew(t, files(math.MaxInt, math.MaxInt), 1, 1)
}

// P15.3: a file of one name has Same 0, whatever its Same was.
func TestAnewAlone(t *testing.T) {
	wantAnew(t, files(1), 0)
	wantAnew(t, files(math.MaxInt), 0)
	wantAnew(t, files(2, 1, 3), 0, 0, 0)
	wantAnew(t, sample()[7:], 0, 0, 0, 0, 0, 0)
	for n := range 41 {
		var sames []int
		for i := range n {
			sames = append(sames, n-i)
		}
		wantAnew(t, files(sames...), make([]int, n)...)
	}
}

// P15.3: what the numbers were makes no difference, also if they are those that are given anew, but for another file.
func TestAnewNumbers(t *testing.T) {
	wantAnew(t, files(1, 1), 1, 1)
	wantAnew(t, files(2, 1, 1, 2), 1, 2, 2, 1)
	wantAnew(t, files(3, 1, 2, 3, 1, 2), 1, 2, 3, 1, 2, 3)
	wantAnew(t, files(2, 2, 1, 1), 1, 1, 3, 3)
	once, _ := Anew(sample())
	wantAnew(t, once, 0, 0, 3, 0, 5, 3, 0, 0, 0, 0, 5, 3, 0)
}

// P15.3: all but Same stays as it is, and each node in its place.
func TestAnewWhole(t *testing.T) {
	own := api.Meta{Mode: 0o644, UID: 1000, GID: 100, User: "ann", Group: "staff", Second: -1700000000, Nano: 5}
	full := func(s string, same int) api.Node {
		return api.Node{Path: s, Kind: api.File, Same: same, Meta: own, Data: []byte("x\x00")}
	}
	nodes := []api.Node{{Path: "a", Kind: api.Dir, Meta: own}, full("a/b", 7), full("a/c", 7), full("c", 6), {Path: "d", Kind: api.Sym, Target: "a/b", Meta: own}, full("e", 0)}
	wantAnew(t, nodes, 0, 2, 2, 0, 0, 0)
}

// P15.1 to P15.3: all nodes as one file, from the first one to any other one, and a file of two names at all places.
func TestPlaces(t *testing.T) {
	for n := 2; n <= 40; n++ {
		same := slices.Repeat([]int{5}, n)
		wantFirsts(t, files(same...), make([]int, n)...)
		wantNames(t, files(same...), slices.Repeat([]int{n}, n)...)
		wantAnew(t, files(same...), slices.Repeat([]int{1}, n)...)
	}
	for i := range 40 {
		for j := range i {
			sames, firsts, names, anew := make([]int, 40), make([]int, 40), make([]int, 40), make([]int, 40)
			for k := range 40 {
				firsts[k], names[k] = k, 1
			}
			sames[i], sames[j] = 1, 1
			firsts[i] = j
			names[i], names[j] = 2, 2
			anew[i], anew[j] = j+1, j+1
			wantFirsts(t, files(sames...), firsts...)
			wantNames(t, files(sames...), names...)
			wantAnew(t, files(sames...), anew...)
		}
	}
}

// P15.1 to P15.3: the errors are those of tree.Check.
func TestErrors(t *testing.T) {
	other := linked("b", 7, "x")
	other.Meta.Nano = 1
	for _, c := range []struct {
		l    []api.Node
		want api.Errno
	}{
		{wide(41), api.ErrSize},
		{files(make([]int, 41)...), api.ErrSize},
		{make([]api.Node, 5000), api.ErrSize},
		{[]api.Node{dir("a"), dir("")}, api.ErrSize},
		{[]api.Node{file("a", strings.Repeat("x", 2001))}, api.ErrSize},
		{[]api.Node{dir("a"), file("a/\x00", "")}, api.ErrForm},
		{files(7, -1), api.ErrForm},
		{files(math.MinInt), api.ErrForm},
		{[]api.Node{{Path: "a", Kind: api.Dir, Same: 1}}, api.ErrForm},
		{[]api.Node{{Path: "a", Kind: api.Sym, Target: "b", Same: 1}}, api.ErrForm},
		{[]api.Node{dir("a"), dir("a/..")}, api.ErrPath},
		{[]api.Node{dir("a"), {Path: "b", Kind: api.Dir, Meta: api.Meta{Mode: -1}}}, api.ErrRange},
		{[]api.Node{file("a", ""), {Path: "b", Kind: api.Link, Target: "a"}}, api.ErrKind},
		{[]api.Node{dir("b"), dir("a")}, api.ErrTwice},
		{[]api.Node{linked("a", 7, "x"), linked("a", 7, "x")}, api.ErrTwice},
		{sample()[2:], api.ErrUp},
		{[]api.Node{file("a", ""), file("a/b", "")}, api.ErrUp},
		{[]api.Node{linked("a", 7, "x"), linked("b", 7, "y")}, api.ErrLink},
		{[]api.Node{linked("a", 7, "x"), other}, api.ErrLink},
		{[]api.Node{linked("a", 7, "x"), linked("b", 7, "y"), dir("b")}, api.ErrLink},
		{[]api.Node{linked("b", 7, "x"), linked("a", 7, "y"), linked("a/b", -1, "")}, api.ErrTwice},
	} {
		wantError(t, c.l, c.want)
	}
}

// isSame tells by the words of the chapter whether two nodes of a tree are the same file.
func isSame(l []api.Node, i, j int) bool { return i == j || l[i].Same > 0 && l[i].Same == l[j].Same }

// wantByWords compares all functions with the words of the promises.
func wantByWords(t *testing.T, l []api.Node) {
	t.Helper()
	if err := tree.Check(l); err != api.OK {
		wantError(t, l, err)
		return
	}
	var firsts, names, anew []int
	for i := range l {
		first, count, same := i, 0, 0
		for j := range l {
			if isSame(l, i, j) {
				first = min(first, j)
				count++
			}
		}
		if count > 1 {
			same = first + 1
		}
		firsts, names, anew = append(firsts, first), append(names, count), append(anew, same)
	}
	wantFirsts(t, l, firsts...)
	wantNames(t, l, names...)
	wantAnew(t, l, anew...)
}

// P15.1 to P15.3: all short lists of numbers.
func TestShort(t *testing.T) {
	pool := []int{0, 1, 2, 3, 9, -1}
	var more func(sames []int)
	more = func(sames []int) {
		wantByWords(t, files(sames...))
		if len(sames) == 5 {
			return
		}
		for _, same := range pool {
			more(append(slices.Clone(sames), same))
		}
	}
	more(nil)
}

// P15.1 to P15.3: many trees; one in the order of its paths, and one that is no tree.
func TestRandom(t *testing.T) {
	random := rand.New(rand.NewSource(15))
	names := []string{"a", "b", "a-b", "a!", "\xff"}
	for range 1000 {
		var nodes []api.Node
		for range 60 {
			s := names[random.Intn(5)]
			for random.Intn(2) == 0 {
				s += "/" + names[random.Intn(5)]
			}
			same := random.Intn(8)
			n := []api.Node{dir(s), dir(s), file(s, "x"), sym(s), linked(s, same, "x"), linked(s, same*1000, "x")}[random.Intn(6)]
			if next, err := tree.Put(nodes, n); err == api.OK {
				nodes = next
			}
		}
		wantByWords(t, nodes)
		random.Shuffle(len(nodes), func(i, j int) { nodes[i], nodes[j] = nodes[j], nodes[i] })
		wantByWords(t, nodes)
	}
}

// P15.1 to P15.3: the greatest sizes take no long time.
func TestSizes(t *testing.T) {
	var nodes []api.Node
	for i := range 40 {
		nodes = append(nodes, linked(fmt.Sprintf("%s%02d", strings.Repeat("a", 398), i), 1, strings.Repeat("x", 2000)))
	}
	begin := time.Now()
	for range 100 {
		wantByWords(t, nodes)
	}
	if d := time.Since(begin); d > 20*time.Second {
		t.Errorf("it took %s", d)
	}
}

// crowded is a tree at the start of a longer list, with something in the unused capacity of all lists. One list is the data
// of all files.
func crowded() []api.Node {
	data := append(make([]byte, 0, 64), "one, and what is behind it"...)
	own := api.Meta{User: "ann", Group: "staff"}
	file := func(s string, same int) api.Node {
		return api.Node{Path: s, Kind: api.File, Same: same, Meta: own, Data: data[:3]}
	}
	return []api.Node{dir("a"), file("a/b", 9), file("a/c", 8), file("a/d", 9), sym("d"), file("e", 0), file("0", 9), dir("1")}[:6]
}

// room is all of a list, up to its capacity, and all of the lists in it; a later change of the list does not change it.
func room(l []api.Node) string {
	s := ""
	for _, n := range l[:cap(l)] {
		s += fmt.Sprintf("%q %q ", fmt.Sprint(n), n.Data[:cap(n.Data)])
	}
	return s
}

// scribble changes all that can be changed in a list, up to its capacity.
func scribble(l []api.Node) {
	for i := range l[:cap(l)] {
		data := l[:cap(l)][i].Data
		for j := range data[:cap(data)] {
			data[:cap(data)][j] = '!'
		}
		l[:cap(l)][i] = api.Node{Path: "!", Data: data}
	}
}

// P15.1 to P15.3: arguments are not changed, whether they are trees or not.
func TestArguments(t *testing.T) {
	for _, nodes := range [][]api.Node{crowded(), crowded()[1:], crowded()[:7], wide(41)} {
		before := room(nodes)
		Firsts(nodes)
		Names(nodes)
		Anew(nodes)
		if room(nodes) != before {
			t.Errorf("an argument was changed: %s", said(nodes))
		}
	}
}

// P15.1 and P15.2: the lists of numbers are new ones.
func TestMemoryOfNumbers(t *testing.T) {
	nodes := crowded()
	var results [][]int
	for range 2 {
		firsts, _ := Firsts(nodes)
		names, _ := Names(nodes)
		results = append(results, firsts, names)
	}
	wants := [][]int{{0, 1, 2, 1, 4, 5}, {1, 2, 1, 2, 1, 1}, {0, 1, 2, 1, 4, 5}, {1, 2, 1, 2, 1, 1}}
	for i, l := range results {
		if !slices.Equal(l, wants[i]) {
			t.Errorf("result %d is %d, want %d, after a change of another one", i, l, wants[i])
		}
		for j := range l[:cap(l)] {
			l[:cap(l)][j] = -1
		}
	}
}

// P15.3: the result shares nothing with the argument or another result.
func TestMemory(t *testing.T) {
	nodes := crowded()
	one, _ := Anew(nodes)
	other, _ := Anew(nodes)
	whole := room(one)
	scribble(other)
	scribble(nodes)
	if room(one) != whole || len(one) == 0 {
		t.Error("a result shares memory with the argument or another result")
	}
	for i, n := range one {
		others := slices.Clip(slices.Delete(slices.Clone(one), i, i+1))
		whole := room(others)
		for j := range n.Data[:cap(n.Data)] {
			n.Data[:cap(n.Data)][j]++
		}
		if room(others) != whole {
			t.Errorf("the data of node %d is that of another node too", i)
		}
	}
}

// P15.3: strings are copied, so that no result keeps a longer string in memory of which one is a part.
func TestMemoryOfStrings(t *testing.T) {
	nodes := crowded()
	begin := map[*byte]bool{}
	strs := func(l []api.Node) []string {
		var all []string
		for _, n := range l {
			all = append(all, n.Path, n.Target, n.Meta.User, n.Meta.Group)
		}
		return all
	}
	for _, s := range strs(nodes) {
		if s != "" {
			begin[unsafe.StringData(s)] = true
		}
	}
	for range 2 {
		anew, _ := Anew(nodes)
		for _, s := range strs(anew) {
			if s != "" && begin[unsafe.StringData(s)] {
				t.Errorf("a result has the string %q of an argument or another result", s)
			}
		}
		for _, s := range strs(anew) {
			if s != "" {
				begin[unsafe.StringData(s)] = true
			}
		}
	}
}
