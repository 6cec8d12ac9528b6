package read

import (
	"bytes"
	"fmt"
	"math/rand"
	"slices"
	"strings"
	"testing"
	"time"
	"unsafe"

	"creel/api"
	"creel/member"
	"creel/path"
	"creel/plan"
	"creel/write"
)

// owner is metadata with nothing wrong in it, no field of value zero, and all of it with room in a head.
var owner = api.Meta{Mode: 0o644, UID: 1000, GID: 100, User: "ann", Group: "staff", Second: 1700000000}

// far is metadata with nothing wrong in it, and none of it with room in a head.
var far = api.Meta{Mode: 0o7777, UID: 1 << 50, GID: 1 << 50, User: xs(60), Group: xs(60), Second: -1 << 40, Nano: 1}

// end is what an archive ends with.
var end = zeros(1024)

func xs(n int) string { return strings.Repeat("x", n) }

func zeros(n int) string { return strings.Repeat("\x00", n) }

// dir, file, sym and hard are members of each kind.
func dir(s string) api.Entry { return api.Entry{Path: s, Kind: api.Dir} }

func file(s, data string) api.Entry {
	return api.Entry{Path: s, Kind: api.File, Data: []byte(data)}
}

func sym(s, target string) api.Entry { return api.Entry{Path: s, Kind: api.Sym, Target: target} }

func hard(s, target string) api.Entry { return api.Entry{Path: s, Kind: api.Link, Target: target} }

// of is a member with other metadata.
func of(m api.Meta, x api.Entry) api.Entry {
	x.Meta = m
	return x
}

// few are the members of the example of the whole system.
func few() []api.Entry { return []api.Entry{dir("a"), file("a/b", "x"), hard("c", "a/b")} }

// sample has members of every kind, with and without records and data, and with data that look like an end.
func sample() []api.Entry {
	return []api.Entry{
		of(owner, dir("a")), of(owner, file("a/b", "one\x00")), dir("a/c"), of(owner, hard("a/c/d", "a/b")), file("a/c/e", zeros(1100)), of(far, file("a/c/f", xs(512))),
		of(owner, sym("a-b", "../a//\xff")), hard("b", "a/c/e"), of(far, dir("c")), of(far, hard("c/a", "a/c/f")), file("d"+xs(399), xs(2000)), sym("e", xs(400)),
	}
}

// wide has n directories at its top.
func wide(n int) []api.Entry {
	var l []api.Entry
	for i := range n {
		l = append(l, dir(fmt.Sprintf("d%05d", i)))
	}
	return l
}

// great has as many members as there may be, each one as long as it may be.
func great() []api.Entry {
	var l []api.Entry
	for i := range api.MaxNodes {
		l = append(l, of(far, file(fmt.Sprintf("f%02d", i)+xs(397), xs(2000))))
	}
	return l
}

// lists are lists of members that may be.
func lists() [][]api.Entry {
	l := [][]api.Entry{nil, few(), few()[:1], few()[:2], sample(), great(), {of(far, file(xs(400), xs(2000)))}}
	for n := range api.MaxNodes + 1 {
		l = append(l, wide(n))
	}
	for n := range sample() {
		l = append(l, sample()[:n])
	}
	return l
}

// odd are lists of members that may each be, but not together, with their errors.
func odd() map[api.Errno][][]api.Entry {
	return map[api.Errno][][]api.Entry{
		api.ErrSize:  {wide(41), append(great(), dir("z")), append(wide(41), dir("a"))},
		api.ErrTwice: {{dir("b"), dir("a")}, {dir("a"), dir("a")}, {dir("a"), file("a", "")}, {dir("a-b"), dir("a"), dir("a/b")}},
		api.ErrUp:    {few()[1:], {dir("a/b")}, {file("a", ""), dir("a/b")}, {sym("a", "c"), dir("a/b")}, {dir("a"), file("a-b/c", "")}},
		api.ErrLink: {few()[2:], {dir("a"), hard("b", "a")}, {file("a", ""), hard("b", "a"), hard("c", "b")}, {hard("a", "b"), file("b", "")}, {hard("a", "a")},
			{of(owner, file("a", "")), hard("b", "a")}, {sym("a", "b"), hard("b", "a")}},
	}
}

// encodings are those of members, one after the other, and where they begin and the last one ends.
func encodings(l []api.Entry) (string, []int) {
	text, places := "", []int{}
	for _, x := range l {
		b, err := member.Write(x)
		if err != api.OK {
			panic(fmt.Sprintf("no member: %.500q", fmt.Sprint(x)))
		}
		places = append(places, len(text))
		text += string(b)
	}
	return text, append(places, len(text))
}

// say members in one line.
func say(l []api.Entry) string {
	s := ""
	for _, x := range l {
		s += fmt.Sprintf("%q%d%q%q%q ", x.Path, x.Kind, x.Target, fmt.Sprint(x.Meta), x.Data)
	}
	return s
}

func wantSome(t *testing.T, what, s string, want []api.Entry, wantPlace int, wantErr api.Errno) {
	t.Helper()
	l, place, err := Some([]byte(s))
	if say(l) != say(want) || place != wantPlace || err != wantErr {
		t.Errorf("Some of %s: %d members, %d, %d; want %d, %d, %d (%.300q)", what, len(l), place, err, len(want), wantPlace, wantErr, s)
	}
}

// wantArchive tells that bytes are an archive of members, and that all of these are found in it, and nothing else is.
func wantArchive(t *testing.T, what, s string, want []api.Entry) {
	t.Helper()
	if l, err := Archive([]byte(s)); say(l) != say(want) || err != api.OK {
		t.Errorf("Archive of %s: %.300q, %d; want %.300q", what, say(l), err, say(want))
	}
	for _, x := range want {
		if got, err := Find([]byte(s), x.Path); say([]api.Entry{got}) != say([]api.Entry{x}) || err != api.OK {
			t.Errorf("Find of %q in %s: %.300q, %d", x.Path, what, say([]api.Entry{got}), err)
		}
	}
	wantNone(t, what, s, "no such path", api.ErrNone)
}

func wantNone(t *testing.T, what, s, path string, want api.Errno) {
	t.Helper()
	if x, err := Find([]byte(s), path); say([]api.Entry{x}) != say([]api.Entry{{}}) || err != want {
		t.Errorf("Find of %q in %s: %.300q, %d; want a zero one, %d", path, what, say([]api.Entry{x}), err, want)
	}
}

// wantError tells that both functions that take an archive return an error, and nothing beside it.
func wantError(t *testing.T, what, s string, want api.Errno) {
	t.Helper()
	if l, err := Archive([]byte(s)); len(l) != 0 || err != want {
		t.Errorf("Archive of %s: %d members, %d; want none, %d (%.300q)", what, len(l), err, want, s)
	}
	for _, path := range []string{"a", "d00001", "no such path"} {
		wantNone(t, what, s, path, want)
	}
}

// P19.1 to P19.3: the example of the whole system, and that of the chapter.
func TestFew(t *testing.T) {
	b, _ := write.Archive(few())
	s := string(b)
	wantSome(t, "the example", s, few(), 2048, api.OK)
	wantArchive(t, "the example", s, few())
	for n := 512; n < 1536; n++ {
		wantSome(t, fmt.Sprintf("%d bytes", n), s[:n], few()[:1], 512, api.ErrShort)
		wantError(t, fmt.Sprintf("%d bytes", n), s[:n], api.ErrShort)
	}
}

// P19.1 to P19.3: archives of lists of every size, of which Archive is the inverse.
func TestLists(t *testing.T) {
	for i, l := range lists() {
		b, err := write.Archive(l)
		text, places := encodings(l)
		if err != api.OK || string(b) != text+end {
			t.Fatalf("no archive: %.500q", say(l))
		}
		what := fmt.Sprintf("list %d of %d members", i, len(l))
		wantArchive(t, what, text+end, l)
		for _, behind := range []string{end, zeros(512), zeros(513), zeros(1023), zeros(1025), zeros(1536), zeros(512) + xs(512), zeros(512) + xs(1), zeros(512) + text + end} {
			wantSome(t, what, text+behind, l, places[len(l)], api.OK)
		}
	}
}

// P19.1 and P19.2: what is cut off anywhere.
func TestShort(t *testing.T) {
	for _, l := range [][]api.Entry{nil, few(), {file("a", ""), of(far, file("b", "x")), dir("c")}} {
		text, places := encodings(l)
		s := text + end
		for n := range s {
			// count is that of the members that are there as a whole.
			count := 0
			for count < len(l) && places[count+1] <= n {
				count++
			}
			what := fmt.Sprintf("%d of %d bytes", n, len(s))
			if n < len(text)+512 {
				wantSome(t, what, s[:n], l[:count], places[count], api.ErrShort)
				wantError(t, what, s[:n], api.ErrShort)
				continue
			}
			wantSome(t, what, s[:n], l, len(text), api.OK)
			wantError(t, what, s[:n], api.ErrForm)
		}
	}
	wantSome(t, "nothing", "", nil, 0, api.ErrShort)
	wantError(t, "nothing", "", api.ErrShort)
	if l, place, err := Some(nil); len(l) != 0 || place != 0 || err != api.ErrShort {
		t.Errorf("Some of nil: %v, %d, %d", l, place, err)
	}
	if l, err := Archive(nil); len(l) != 0 || err != api.ErrShort {
		t.Errorf("Archive of nil: %v, %d", l, err)
	}
	for n := range 512 {
		wantSome(t, fmt.Sprintf("%d zero bytes", n), zeros(n), nil, 0, api.ErrShort)
		wantSome(t, fmt.Sprintf("%d other bytes", n), xs(n), nil, 0, api.ErrShort)
	}
}

// P19.1: what follows the members is exactly an end.
func TestEnd(t *testing.T) {
	for _, l := range [][]api.Entry{nil, few(), sample()} {
		text, places := encodings(l)
		last := places[len(l)]
		for _, behind := range []string{
			zeros(512), zeros(513), zeros(1023), end + "\x00", end + "x", end + zeros(511), end + zeros(512), end + end, end + text + end, zeros(512) + text + end,
			zeros(512) + "x" + zeros(511), zeros(1023) + "x", zeros(1023) + "\x01", zeros(512) + xs(512), zeros(512) + xs(100), zeros(512) + strings.Repeat("\x80", 512),
		} {
			wantSome(t, fmt.Sprintf("%d members and %d bytes", len(l), len(behind)), text+behind, l, last, api.OK)
			wantError(t, fmt.Sprintf("%d members and %d bytes", len(l), len(behind)), text+behind, api.ErrForm)
		}
		// Every byte of the end that is not zero: in the first block, it is one of a member that is none.
		for i := range 1024 {
			s := text + zeros(i) + "\x01" + zeros(1023-i)
			if i < 512 {
				wantSome(t, fmt.Sprintf("byte %d of the end", i), s, l, last, api.ErrSum)
				wantError(t, fmt.Sprintf("byte %d of the end", i), s, api.ErrSum)
				continue
			}
			wantSome(t, fmt.Sprintf("byte %d of the end", i), s, l, last, api.OK)
			wantError(t, fmt.Sprintf("byte %d of the end", i), s, api.ErrForm)
		}
	}
}

// P19.2: it stops at the first block of zero bytes where a member could begin, and not at one within a member.
func TestStop(t *testing.T) {
	l := sample()
	for i := range len(l) + 1 {
		front, _ := encodings(l[:i])
		back, _ := encodings(l[i:])
		for _, between := range []string{zeros(512), zeros(1024), zeros(1536), zeros(512) + xs(512)} {
			s := front + between + back + end
			wantSome(t, fmt.Sprintf("zero bytes ahead of member %d", i), s, l[:i], len(front), api.OK)
			wantError(t, fmt.Sprintf("zero bytes ahead of member %d", i), s, api.ErrForm)
		}
	}
	// The head is missing, as no block of zero bytes is one: a member could not begin behind the records.
	b, _ := member.Write(of(far, dir("b")))
	front, _ := encodings(few()[:2])
	s := front + string(b[:len(b)-512])
	wantSome(t, "records and an end", s+end, few()[:2], len(front), api.ErrSum)
	wantError(t, "records and an end", s+end, api.ErrSum)
	for _, n := range []int{1, 512, 513, 1024, 1536, 2000} {
		inside := []api.Entry{file("a", zeros(n)), file("b", zeros(n))}
		text, places := encodings(inside)
		wantSome(t, fmt.Sprintf("%d zero bytes within a member", n), text+end, inside, places[2], api.OK)
		wantArchive(t, fmt.Sprintf("%d zero bytes within a member", n), text+end, inside)
	}
}

// sized is an encoding with another size in its first block, and the sum that it should have then.
func sized(s, size string) string {
	s = s[:124] + size + s[124+len(size):148] + "        " + s[156:]
	sum := 0
	for _, x := range []byte(s[:512]) {
		sum += int(x)
	}
	return s[:148] + fmt.Sprintf("%06o\x00 ", sum) + s[156:]
}

// wrongs are texts that no member begins, whatever is ahead of them, with their errors.
func wrongs(t *testing.T) map[api.Errno][]string {
	plain, _ := encodings([]api.Entry{file("a", "x")})
	long, _ := encodings([]api.Entry{of(far, file("b", "x"))})
	if right := sized(plain, "00000000001"); right != plain {
		t.Fatalf("another sum than that of head: %.200q; want %.200q", right, plain)
	}
	return map[api.Errno][]string{
		api.ErrShort: {"x", xs(511), zeros(511), plain[:1023], plain[:512], long[:512], long[:1024], long[:len(long)-1], sized(plain, "00000001001") + zeros(511), sized(plain, "77777777777") + end},
		api.ErrSum: {
			"b" + plain[1:] + end, xs(512), xs(512) + end, "\x01" + zeros(511) + end, zeros(511) + "\x01" + end, plain[:124] + "1" + plain[125:] + end, plain[1:] + end + "x",
			long[:len(long)-1024] + end, long[:len(long)-1024] + "c" + long[len(long)-1023:] + end, plain[512:] + end,
		},
		api.ErrForm: {
			plain[:1023] + "\x01" + end, plain[:512] + plain + end, plain[:512] + xs(512) + end, sized(plain, "00000000008") + end,
			sized(plain, "00000001001") + xs(512) + end, sized(long, "00000000001") + end, long[:512] + long + end, long[:1024] + long + end, long[:len(long)-1] + "\x01" + end,
		},
	}
}

// P19.1 to P19.3: the errors of member.Read, behind any members, also those that may not be together.
func TestWrong(t *testing.T) {
	tested := [][]api.Entry{nil, few()[:1], few(), sample(), wide(40)}
	for _, l := range odd() {
		tested = append(tested, l...)
	}
	for want, texts := range wrongs(t) {
		for i, s := range texts {
			if _, _, err := member.Read([]byte(s)); err != want {
				t.Fatalf("text %d of error %d: member.Read has %d", i, want, err)
			}
			for _, l := range tested {
				front, _ := encodings(l)
				what := fmt.Sprintf("text %d of error %d behind %d members", i, want, len(l))
				wantSome(t, what, front+s, l, len(front), want)
				wantError(t, what, front+s, want)
			}
		}
	}
}

// P19.1 to P19.3: the errors of plan.Check, which come last.
func TestOdd(t *testing.T) {
	for want, all := range odd() {
		for _, l := range all {
			if err := plan.Check(l); err != want {
				t.Fatalf("Check of %.300q: %d, want %d", say(l), err, want)
			}
			text, _ := encodings(l)
			what := fmt.Sprintf("%d members of error %d", len(l), want)
			wantSome(t, what, text+end, l, len(text), api.OK)
			wantError(t, what, text+end, want)
			for _, behind := range []string{zeros(512), zeros(1023), end + "\x00", zeros(512) + xs(512)} {
				wantSome(t, what, text+behind, l, len(text), api.OK)
				wantError(t, what, text+behind, api.ErrForm)
			}
		}
	}
	// A member that is not right by itself has no encoding: its bytes are wrong already.
	for _, x := range []string{"../a", "/a", "a/", "a//b"} {
		b, _ := member.Write(dir(xs(len(x))))
		s := sized(x+string(b[len(x):]), "00000000000")
		wantSome(t, x, s+end, nil, 0, api.ErrForm)
		wantError(t, x, s+end, api.ErrForm)
	}
}

// P19.3: paths that are no member's, and those of members of every kind.
func TestFind(t *testing.T) {
	l := sample()
	text, _ := encodings(l)
	for _, s := range []string{
		"", "A", "a/", "/a", "a/d", "a/c/", "a/c/d/e", "a/b/c", "b/", "c/aa", "d", "d" + xs(398), "d" + xs(400), "e\x00", "one", "../a//\xff", xs(400), "@long", "@pax", "x", "ann", "\x00", "a\x00", ".",
	} {
		wantNone(t, "the sample", text+end, s, api.ErrNone)
	}
	for _, x := range l {
		got, err := Find([]byte(text+end), x.Path)
		if say([]api.Entry{got}) != say([]api.Entry{x}) || err != api.OK {
			t.Errorf("Find of %q: %.300q, %d", x.Path, say([]api.Entry{got}), err)
		}
	}
	wantNone(t, "no members", end, "", api.ErrNone)
	wantNone(t, "no members", end, "a", api.ErrNone)
	wantNone(t, "nothing", "", "", api.ErrShort)
	// The member is there, but what is behind it is wrong.
	wantNone(t, "the sample without an end", text, "a", api.ErrShort)
	wantNone(t, "the sample and half an end", text+zeros(512), "a", api.ErrForm)
	wantNone(t, "the sample and other bytes", text+xs(512), "a", api.ErrSum)
	wantNone(t, "the sample twice", text+text+end, "a", api.ErrTwice)
}

// randomList is a list of members that are each right.
func randomList(random *rand.Rand) []api.Entry {
	metas := []api.Meta{{}, owner, far, {Nano: 5}, {UID: 2097151}, {GID: 2097152}}
	names := []string{"a", "b", "\xff", xs(99), xs(101), xs(160)}
	sizes := []int{0, 1, 511, 512, 513, 1024, 2000}
	var l []api.Entry
	dirs := []string{""}
	for range random.Intn(20) {
		x := api.Entry{Path: dirs[random.Intn(len(dirs))] + names[random.Intn(len(names))], Kind: 1 + random.Intn(4), Meta: metas[random.Intn(len(metas))]}
		if len(x.Path) > api.MaxPath || slices.ContainsFunc(l, func(y api.Entry) bool { return x.Path == y.Path }) {
			continue
		}
		switch x.Kind {
		case api.File:
			x.Data = make([]byte, sizes[random.Intn(len(sizes))])
			if random.Intn(2) == 0 {
				random.Read(x.Data)
			}
		case api.Dir:
			dirs = append(dirs, x.Path+"/")
		case api.Sym:
			x.Target = xs(1 + random.Intn(400))
		case api.Link:
			x.Target = names[random.Intn(len(names))]
			for _, y := range l {
				if y.Kind == api.File && path.Compare(y.Path, x.Path) < 0 && random.Intn(8) != 0 {
					x.Target, x.Meta = y.Path, y.Meta
				}
			}
		}
		l = append(l, x)
	}
	slices.SortFunc(l, func(x, y api.Entry) int { return path.Compare(x.Path, y.Path) })
	return l
}

// someByWords is what Some returns by the words of P19.2: block by block, with what is left of a member counted down.
func someByWords(s string) (l []api.Entry, place int, err api.Errno) {
	left := 0
	for i := 0; ; i += 512 {
		if left > 0 {
			left -= 512
			continue
		}
		if len(s)-i < 512 {
			return l, i, api.ErrShort
		}
		if strings.Trim(s[i:i+512], "\x00") == "" {
			return l, i, api.OK
		}
		x, size, err := member.Read([]byte(s[i:]))
		if err != api.OK {
			return l, i, err
		}
		l = append(l, x)
		left = size - 512
	}
}

// wantByWords tells what the error of Archive is.
func wantByWords(t *testing.T, s string) api.Errno {
	t.Helper()
	l, place, err := someByWords(s)
	wantSome(t, "random bytes", s, l, place, err)
	if err == api.OK && s[place:] != end {
		err = api.ErrForm
	}
	if err == api.OK {
		err = plan.Check(l)
	}
	if err != api.OK {
		wantError(t, "random bytes", s, err)
		return err
	}
	wantArchive(t, "random bytes", s, l)
	return api.OK
}

// P19.1 to P19.3: random archives, and what has a byte changed in them, or blocks moved, repeated, cleared or left out.
func TestRandom(t *testing.T) {
	random := rand.New(rand.NewSource(19))
	counts := map[api.Errno]int{}
	for range 600 {
		l := randomList(random)
		text, _ := encodings(l)
		counts[wantByWords(t, text+end)]++
		b := []byte(text + end)
		i, j := random.Intn(len(b)/512)*512, random.Intn(len(b)/512)*512
		switch random.Intn(7) {
		case 0:
			b[random.Intn(len(b))] ^= 1 << random.Intn(8)
		case 1:
			copy(b[i:i+512], zeros(512))
		case 2:
			copy(b[i:i+512], b[j:j+512])
		case 3:
			b = slices.Delete(b, i, i+512)
		case 4:
			b = slices.Insert(b, i, slices.Clone(b[j:j+512])...)
		case 5:
			b = b[:random.Intn(len(b))]
		case 6:
			b = append(slices.Clone(b[i:]), b[:i]...)
		}
		counts[wantByWords(t, string(b))]++
		m := randomList(random)
		other, _ := encodings(m)
		counts[wantByWords(t, text+other+end)]++
	}
	for _, err := range []api.Errno{api.OK, api.ErrShort, api.ErrSum, api.ErrForm, api.ErrTwice, api.ErrLink} {
		if counts[err] < 10 {
			t.Errorf("the archives are too much alike: %v", counts)
		}
	}
}

// P19.1 to P19.3: long arguments take time that grows with their length.
func TestLong(t *testing.T) {
	begin := time.Now()
	var b []byte
	one, _ := member.Write(dir("a"))
	two, _ := member.Write(of(far, file("b", xs(2000))))
	for range 1 << 14 {
		b = append(append(b, one...), two...)
	}
	size := len(b)
	b = append(b, end...)
	if l, place, err := Some(b); len(l) != 1<<15 || place != size || err != api.OK {
		t.Errorf("Some of many members: %d, %d, %d", len(l), place, err)
	}
	if l, err := Archive(b); len(l) != 0 || err != api.ErrSize {
		t.Errorf("Archive of many members: %d, %d", len(l), err)
	}
	empty := make([]byte, 1<<28)
	if l, place, err := Some(empty); len(l) != 0 || place != 0 || err != api.OK {
		t.Errorf("Some of zero bytes: %d, %d, %d", len(l), place, err)
	}
	if l, err := Archive(empty); len(l) != 0 || err != api.ErrForm {
		t.Errorf("Archive of zero bytes: %d, %d", len(l), err)
	}
	text, _ := encodings([]api.Entry{file("a", "x")})
	copy(empty, sized(text, "00000000777"))
	if l, place, err := Some(empty); len(l) != 1 || place != 1024 || err != api.OK {
		t.Errorf("Some of a member ahead of zero bytes: %d, %d, %d", len(l), place, err)
	}
	copy(empty, sized(text, "01000000000"))
	if l, place, err := Some(empty); len(l) != 0 || place != 0 || err != api.ErrForm {
		t.Errorf("Some of a member with too many bytes: %d, %d, %d", len(l), place, err)
	}
	if d := time.Since(begin); d > 30*time.Second {
		t.Errorf("it took %s", d)
	}
}

// P19.1 to P19.3: arguments are not changed, up to their capacity.
func TestArguments(t *testing.T) {
	tested := []string{"", end, xs(512)}
	for _, l := range append(lists(), odd()[api.ErrUp]...) {
		text, _ := encodings(l)
		tested = append(tested, text, text+end, text+end+end, text+xs(512))
	}
	for _, s := range tested {
		b := []byte(s + "some more" + s)
		before := string(b)
		b = b[:len(s)]
		Archive(b)
		Some(b)
		Find(b, "a")
		if string(b[:len(before)]) != before {
			t.Errorf("an argument was changed: %.500q", before)
		}
	}
}

// P19.1 to P19.3: results are new memory, up to their capacity.
func TestMemory(t *testing.T) {
	for _, l := range lists() {
		text, _ := encodings(l)
		b := []byte(text + end)
		short := []byte(text + xs(512))
		archive, _ := Archive(b)
		some, _, _ := Some(b)
		before, _, _ := Some(short)
		found, _ := Find(b, "a/b")
		others, _ := Archive(b)
		for i, x := range others[:cap(others)] {
			overwrite(x.Data)
			others[:cap(others)][i] = dir("other")
		}
		wanted, _ := Find([]byte(text+end), "a/b")
		for i := range b {
			b[i] = '!'
		}
		overwrite(short)
		if say(archive) != say(l) || say(some) != say(l) || say(before) != say(l) || say([]api.Entry{found}) != say([]api.Entry{wanted}) {
			t.Errorf("a result shares memory with another one, or with the argument: %.500q", say(l))
		}
		for i := range archive {
			overwrite(archive[i].Data)
			if say(archive[i+1:]) != say(l[i+1:]) {
				t.Errorf("the data of member %d share memory with those of another one: %.500q", i, say(l))
			}
		}
	}
}

// overwrite bytes up to their capacity.
func overwrite(b []byte) {
	b = b[:cap(b)]
	copy(b, bytes.Repeat([]byte{'?'}, len(b)))
}

// P19.3: the path of what was found is not the one that was asked for, whose memory may be that of a longer string.
func TestMemoryOfStrings(t *testing.T) {
	text, _ := encodings(few())
	s := "the path is a/b"[12:]
	x, err := Find([]byte(text+end), s)
	if x.Path != s || err != api.OK || unsafe.StringData(x.Path) == unsafe.StringData(s) {
		t.Errorf("Find keeps its argument: %q, %d", x.Path, err)
	}
}
