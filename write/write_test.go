package write

import (
	"bytes"
	"fmt"
	"math"
	"math/big"
	"math/rand"
	"slices"
	"strings"
	"testing"
	"time"

	"creel/api"
	"creel/member"
	"creel/pad"
	"creel/path"
	"creel/plan"
)

// owner is metadata with nothing wrong in it, no field of value zero, and all of it with room in a head.
var owner = api.Meta{Mode: 0o644, UID: 1000, GID: 100, User: "ann", Group: "staff", Second: 1700000000}

// far is metadata with nothing wrong in it, and none of it with room in a head.
var far = api.Meta{Mode: 0o7777, UID: 1 << 50, GID: 1 << 50, User: xs(60), Group: xs(60), Second: -1 << 40, Nano: 1}

func xs(n int) string { return strings.Repeat("x", n) }

// dir, file, sym and hard are members of each kind.
func dir(s string) api.Entry { return api.Entry{Path: s, Kind: api.Dir} }

func file(s, data string) api.Entry {
	return api.Entry{Path: s, Kind: api.File, Data: []byte(data)}
}

func sym(s, target string) api.Entry { return api.Entry{Path: s, Kind: api.Sym, Target: target} }

func hard(s, target string) api.Entry { return api.Entry{Path: s, Kind: api.Link, Target: target} }

func with(x api.Entry, changes ...func(*api.Entry)) api.Entry {
	for _, change := range changes {
		change(&x)
	}
	return x
}

// of is a member with other metadata.
func of(m api.Meta, x api.Entry) api.Entry {
	x.Meta = m
	return x
}

// few are the members of the example of the whole system.
func few() []api.Entry { return []api.Entry{dir("a"), file("a/b", "x"), hard("c", "a/b")} }

// sample has members of every kind, with and without records and data.
func sample() []api.Entry {
	return []api.Entry{
		of(owner, dir("a")), of(owner, file("a/b", "one\x00")), dir("a/c"), of(owner, hard("a/c/d", "a/b")), file("a/c/e", ""), of(far, file("a/c/f", xs(512))),
		of(owner, sym("a-b", "../a//\xff")), hard("b", "a/c/e"), of(far, dir("c")), of(far, hard("c/a", "a/c/f")), file("d"+xs(399), xs(2000)), sym("e", xs(400)),
	}
}

// wide has n directories at its top.
func wide(n int) []api.Entry {
	var l []api.Entry
	for i := range n {
		l = append(l, dir(fmt.Sprintf("d%05d", i)))
	}
	return l
}

// great has as many members as there may be, each one as long as it may be.
func great() []api.Entry {
	var l []api.Entry
	for i := range api.MaxNodes {
		l = append(l, of(far, file(fmt.Sprintf("f%02d", i)+xs(397), xs(2000))))
	}
	return l
}

// lists are lists of members that may be.
func lists() [][]api.Entry {
	l := [][]api.Entry{nil, {}, few(), few()[:1], few()[:2], sample(), great(), {of(far, file(xs(400), xs(2000)))}}
	for n := range api.MaxNodes + 1 {
		l = append(l, wide(n))
	}
	for n := range sample() {
		l = append(l, sample()[:n])
	}
	return l
}

// byWords is the archive of members that may be, and its places, by the words of P18.1 and P18.2.
func byWords(t *testing.T, l []api.Entry) (string, []int) {
	t.Helper()
	text, places := "", []int{}
	for _, x := range l {
		b, err := member.Write(x)
		if err != api.OK || len(b)%512 != 0 || len(b) == 0 {
			t.Fatalf("no member: %.500q", fmt.Sprint(x))
		}
		places = append(places, len(text))
		text += string(b)
	}
	return text + strings.Repeat("\x00", 1024), append(places, len(text))
}

func want(t *testing.T, l []api.Entry, wantText string, wantPlaces []int) {
	t.Helper()
	if b, err := Archive(l); string(b) != wantText || err != api.OK {
		t.Errorf("Archive of %.500q: %d bytes, %d; want %d other bytes", fmt.Sprint(l), len(b), err, len(wantText))
	}
	if places, err := Places(l); !slices.Equal(places, wantPlaces) || err != api.OK {
		t.Errorf("Places of %.500q: %v, %d; want %v", fmt.Sprint(l), places, err, wantPlaces)
	}
}

// wantError tells that both functions that take members return an error, and nothing beside it.
func wantError(t *testing.T, l []api.Entry, want api.Errno) {
	t.Helper()
	if b, err := Archive(l); len(b) != 0 || err != want {
		t.Errorf("Archive of %.500q: %d bytes, %d; want none, %d", fmt.Sprint(l), len(b), err, want)
	}
	if places, err := Places(l); len(places) != 0 || err != want {
		t.Errorf("Places of %.500q: %v, %d; want none, %d", fmt.Sprint(l), places, err, want)
	}
}

// P18.1 and P18.2: no members.
func TestNone(t *testing.T) {
	for _, l := range [][]api.Entry{nil, {}, few()[:0]} {
		want(t, l, strings.Repeat("\x00", 1024), []int{0})
	}
}

// P18.1 and P18.2: the example of the whole system, block by block.
func TestFew(t *testing.T) {
	b, err := Archive(few())
	if len(b) != 3072 || err != api.OK {
		t.Fatalf("Archive of the example: %d bytes, %d", len(b), err)
	}
	for _, c := range []struct {
		at   int
		want string
	}{
		{0, "a\x00"}, {156, "5\x00"}, {257, "ustar\x0000"}, {512, "a/b\x00"}, {512 + 124, "00000000001\x00"}, {512 + 156, "0\x00"}, {1024, "x\x00"}, {1025, strings.Repeat("\x00", 511)},
		{1536, "c\x00"}, {1536 + 156, "1a/b\x00"}, {2048, strings.Repeat("\x00", 1024)},
	} {
		if got := string(b[c.at : c.at+len(c.want)]); got != c.want {
			t.Errorf("at %d: %q, want %q", c.at, got, c.want)
		}
	}
	if places, err := Places(few()); !slices.Equal(places, []int{0, 512, 1536, 2048}) || err != api.OK {
		t.Errorf("Places of the example: %v, %d", places, err)
	}
}

// P18.1 and P18.2: encodings, one after the other, of every number of members.
func TestLists(t *testing.T) {
	for _, l := range lists() {
		text, places := byWords(t, l)
		want(t, l, text, places)
	}
	if b, err := Archive(wide(40)); len(b) != 42*512 || err != api.OK {
		t.Errorf("Archive of 40 directories: %d bytes, %d", len(b), err)
	}
	// Each of the great members has a head of records, their text of two blocks, a head, and data of four blocks.
	if b, err := Archive(great()); len(b) != 40*8*512+1024 || err != api.OK {
		t.Errorf("Archive of 40 great members: %d bytes, %d", len(b), err)
	}
}

// P18.2: a member begins where its records do, and its data count in whole blocks.
func TestPlaces(t *testing.T) {
	for _, c := range []struct {
		x    api.Entry
		size int
	}{
		{dir("a"), 512}, {file("a", ""), 512}, {file("a", "x"), 1024}, {file("a", xs(512)), 1024}, {file("a", xs(513)), 1536}, {file("a", xs(2000)), 2560},
		{sym("a", xs(100)), 512}, {sym("a", xs(101)), 1536}, {of(owner, dir("a")), 512}, {dir(xs(101)), 1536}, {of(api.Meta{Nano: 1}, file("a", "x")), 2048},
		{of(far, sym("a", xs(400))), 2048}, {of(far, file(xs(400), xs(2000))), 4096}, {file("a", strings.Repeat("\x00", 600)), 1536},
	} {
		if got, err := Places([]api.Entry{c.x}); !slices.Equal(got, []int{0, c.size}) || err != api.OK {
			t.Errorf("Places of %.500q: %v, %d; want 0 and %d", fmt.Sprint(c.x), got, err, c.size)
		}
		l := []api.Entry{dir("Z"), c.x, sym("z", "a")}
		if got, err := Places(l); !slices.Equal(got, []int{0, 512, 512 + c.size, 1024 + c.size}) || err != api.OK {
			t.Errorf("Places of %.500q: %v, %d", fmt.Sprint(l), got, err)
		}
		if b, err := Archive(l); len(b) != 2048+c.size || err != api.OK {
			t.Errorf("Archive of %.500q: %d bytes, %d", fmt.Sprint(l), len(b), err)
		}
	}
}

// wrongs are lists that may not be, each with its error.
func wrongs() map[api.Errno][][]api.Entry {
	return map[api.Errno][][]api.Entry{
		api.ErrSize:  {wide(41), make([]api.Entry, 41), {dir("")}, {dir(xs(401))}, {file("a", xs(2001))}, {sym("a", xs(401))}, {of(api.Meta{User: xs(61)}, dir("a"))}},
		api.ErrForm:  {{dir("a\x00")}, {sym("a", "")}, {hard("a", "")}, {sym("a", "\x00")}, {of(api.Meta{Group: "\x00"}, dir("a"))}, {with(dir("a"), func(x *api.Entry) { x.Data = []byte("x") })}},
		api.ErrPath:  {{dir("/a")}, {dir("a/..")}, {file("a", "x"), hard("b", "./a")}},
		api.ErrRange: {{of(api.Meta{Mode: 4096}, dir("a"))}, {of(api.Meta{UID: math.MaxInt}, dir("a"))}, {of(api.Meta{Second: math.MinInt}, dir("a"))}, {of(api.Meta{Nano: -1}, dir("a"))}},
		api.ErrKind:  {{{Path: "a"}}, {{Path: "a", Kind: 5}}, {{Path: "a", Kind: -1, Data: []byte("x")}}},
		api.ErrTwice: {{dir("b"), dir("a")}, {dir("a"), dir("a")}, {dir("a"), file("a", "")}, {dir("a-b"), dir("a"), dir("a/b")}},
		api.ErrUp:    {few()[1:], {dir("a/b")}, {file("a", ""), dir("a/b")}, {sym("a", "c"), dir("a/b")}, {dir("a"), file("a-b/c", "")}},
		api.ErrLink: {few()[2:], {dir("a"), hard("b", "a")}, {file("a", ""), hard("b", "a"), hard("c", "b")}, {hard("a", "b"), file("b", "")}, {hard("a", "a")},
			{of(owner, file("a", "")), hard("b", "a")}, {sym("a", "b"), hard("b", "a")}},
	}
}

// P18.1 and P18.2: the errors are those of plan.Check, wherever the wrong member is.
func TestErrors(t *testing.T) {
	for err, all := range wrongs() {
		for _, l := range all {
			if got := plan.Check(l); got != err {
				t.Fatalf("Check of %.300q: %d, want %d", fmt.Sprint(l), got, err)
			}
			wantError(t, l, err)
			if len(l) > 38 {
				continue
			}
			wantError(t, append([]api.Entry{file("A", "x")}, l...), err)
			wantError(t, append(slices.Clone(l), api.Entry{}), err)
			wantError(t, append(slices.Clone(l), file("0", xs(2001))), err)
		}
	}
	wantError(t, append(wide(40), api.Entry{Path: "/", Kind: 9}), api.ErrSize)
	wantError(t, append(wide(39), api.Entry{Path: "/", Kind: 9}), api.ErrPath)
	wantError(t, append(great()[:39], dir("z/a")), api.ErrUp)
}

// randomList is a list of members, which may have a link to no file; all else is right in it.
func randomList(random *rand.Rand) []api.Entry {
	metas := []api.Meta{{}, owner, far, {Nano: 5}, {UID: 2097151}, {GID: 2097152}}
	names := []string{"a", "b", "\xff", xs(99), xs(101), xs(160)}
	sizes := []int{0, 1, 511, 512, 513, 1024, 2000}
	var l []api.Entry
	dirs := []string{""}
	for range random.Intn(30) {
		x := api.Entry{Path: dirs[random.Intn(len(dirs))] + names[random.Intn(len(names))], Kind: 1 + random.Intn(4), Meta: metas[random.Intn(len(metas))]}
		if len(x.Path) > api.MaxPath || slices.ContainsFunc(l, func(y api.Entry) bool { return x.Path == y.Path }) {
			continue
		}
		switch x.Kind {
		case api.File:
			x.Data = make([]byte, sizes[random.Intn(len(sizes))])
			random.Read(x.Data)
		case api.Dir:
			dirs = append(dirs, x.Path+"/")
		case api.Sym:
			x.Target = xs(1 + random.Intn(400))
		case api.Link:
			x.Target = names[random.Intn(len(names))]
			for _, y := range l {
				if y.Kind == api.File && path.Compare(y.Path, x.Path) < 0 && random.Intn(8) != 0 {
					x.Target, x.Meta = y.Path, y.Meta
				}
			}
		}
		l = append(l, x)
	}
	slices.SortFunc(l, func(x, y api.Entry) int { return path.Compare(x.Path, y.Path) })
	return l
}

// P18.1 and P18.2: random members.
func TestRandom(t *testing.T) {
	random := rand.New(rand.NewSource(18))
	counts := map[api.Errno]int{}
	for range 2000 {
		l := randomList(random)
		err := plan.Check(l)
		counts[err]++
		if err != api.OK {
			wantError(t, l, err)
			continue
		}
		text, places := byWords(t, l)
		want(t, l, text, places)
		for i, x := range l {
			got, size, err := member.Read([]byte(text[places[i]:]))
			if got.Path != x.Path || size != places[i+1]-places[i] || err != api.OK {
				t.Fatalf("member at %d: %.100q, %d, %d; want %.100q", places[i], got.Path, size, err, x.Path)
			}
		}
		if !pad.Ends([]byte(text[places[len(l)]:])) {
			t.Fatalf("no end at %d", places[len(l)])
		}
	}
	if counts[api.OK] < 500 || counts[api.ErrLink] < 100 {
		t.Errorf("the lists are too much alike: %v", counts)
	}
}

// sumByWords is a sum by the words of P18.3, with numbers of any size.
func sumByWords(b []byte) int {
	sum := big.NewInt(1)
	for _, x := range b {
		sum.Mul(sum, big.NewInt(31))
		sum.Add(sum, big.NewInt(int64(x)))
		sum.Mod(sum, big.NewInt(1000003))
	}
	return int(sum.Int64())
}

// P18.3: sums worked out by hand, in some of which the last byte reaches the bound or passes it.
func TestSum(t *testing.T) {
	for s, want := range map[string]int{
		"": 1, "\x00": 31, "\x01": 32, "a": 128, "\xff": 286, "ab": 4066, "ba": 4096, "\x00\x00": 961, "\x00\x00\x00": 29791, "\x00\x00\x00\x00": 923521,
		"\x00\x00\x00\x00\x00": 629067, "\xff\xff\xff\xff": 773417, "\x02\x11\x12\x04": 1000002, "\x02\x11\x12\x05": 0, "\x02\x11\x12\x06": 1, "\x02\x11\x12\x05\x05": 5,
	} {
		if got := Sum([]byte(s)); got != want {
			t.Errorf("Sum of %q: %d, want %d", s, got, want)
		}
	}
	if Sum(nil) != 1 {
		t.Errorf("Sum of nothing: %d", Sum(nil))
	}
}

// P18.3: all lists of up to two bytes, and of up to five of some bytes.
func TestSumShort(t *testing.T) {
	var all []byte
	for x := range 256 {
		all = append(all, byte(x))
	}
	var wantAll func(front []byte, pool []byte, more int)
	wantAll = func(front []byte, pool []byte, more int) {
		if got, want := Sum(front), sumByWords(front); got != want {
			t.Errorf("Sum of %q: %d, want %d", front, got, want)
		}
		if more == 0 {
			return
		}
		for _, x := range pool {
			wantAll(append(slices.Clone(front), x), pool, more-1)
		}
	}
	wantAll(nil, all, 2)
	wantAll(nil, []byte("\x00\x01a\x7f\x80\xff"), 5)
}

// P18.3: long lists of random bytes, and of bytes that are all the same.
func TestSumLong(t *testing.T) {
	random := rand.New(rand.NewSource(183))
	for range 500 {
		b := make([]byte, random.Intn(3000))
		random.Read(b)
		if got, want := Sum(b), sumByWords(b); got != want {
			t.Errorf("Sum of %d bytes: %d, want %d", len(b), got, want)
		}
	}
	for _, x := range []byte{0, 1, 127, 128, 255} {
		for n := range 600 {
			b := bytes.Repeat([]byte{x}, n)
			if got, want := Sum(b), sumByWords(b); got != want || got < 0 || got >= 1000003 {
				t.Errorf("Sum of %d bytes %d: %d, want %d", n, x, got, want)
			}
		}
	}
	for _, l := range lists() {
		b, _ := Archive(l)
		if got, want := Sum(b), sumByWords(b); got != want {
			t.Errorf("Sum of an archive of %d bytes: %d, want %d", len(b), got, want)
		}
	}
}

// P18.1 to P18.3: long arguments.
func TestLong(t *testing.T) {
	begin := time.Now()
	b := bytes.Repeat([]byte{255}, 1<<26)
	want := 1
	for i := range b {
		want = want*31 + 255
		if i%8 == 7 {
			want %= 1000003
		}
	}
	if got := Sum(b); got != want%1000003 {
		t.Errorf("Sum of %d bytes: %d, want %d", len(b), got, want%1000003)
	}
	wantError(t, make([]api.Entry, 1<<20), api.ErrSize)
	wantError(t, []api.Entry{{Path: "a", Kind: api.File, Data: b}}, api.ErrSize)
	if d := time.Since(begin); d > 20*time.Second {
		t.Errorf("it took %s", d)
	}
}

// spare is a list of members that has something in its unused capacity, and so have the data of the members.
func spare(l []api.Entry) []api.Entry {
	l = append(slices.Clone(l), dir("behind"), file("more", "data"))[:len(l)]
	for i, x := range l {
		l[i].Data = append(append(make([]byte, 0, 3000), x.Data...), "behind"...)[:len(x.Data)]
	}
	return l
}

// all is a list with its unused capacity, in one line.
func all(l []api.Entry) string {
	s := fmt.Sprintf("%q", fmt.Sprint(l[:cap(l)]))
	for _, x := range l[:cap(l)] {
		s += fmt.Sprintf("%q", x.Data[:cap(x.Data)])
	}
	return s
}

// P18.1 to P18.3: arguments are not changed, up to their capacity.
func TestArguments(t *testing.T) {
	tested := lists()
	for _, wrong := range wrongs() {
		tested = append(tested, wrong...)
	}
	for _, l := range tested {
		l = spare(l)
		before := all(l)
		Archive(l)
		Places(l)
		if all(l) != before {
			t.Errorf("an argument was changed: %.500q", before)
		}
	}
	b := []byte("abcdefgh")
	Sum(b[:4])
	if string(b) != "abcdefgh" {
		t.Errorf("an argument was changed: %q", b)
	}
}

// P18.1 and P18.2: results are new memory.
func TestMemory(t *testing.T) {
	for _, l := range lists() {
		text, places := byWords(t, l)
		l = spare(l)
		one, _ := Archive(l)
		other, _ := Archive(l)
		first, _ := Places(l)
		second, _ := Places(l)
		for i := range other[:cap(other)] {
			other[:cap(other)][i] = '!'
		}
		for i := range second[:cap(second)] {
			second[:cap(second)][i] = -1
		}
		for _, x := range l {
			for i := range x.Data[:cap(x.Data)] {
				x.Data[:cap(x.Data)][i] = '?'
			}
		}
		if string(one) != text || !slices.Equal(first, places) {
			t.Errorf("a result shares memory with another one, or with the argument %.500q", fmt.Sprint(l))
		}
	}
}
