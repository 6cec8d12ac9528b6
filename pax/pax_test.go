package pax

import (
	"slices"
	"strconv"
	"strings"
	"testing"

	"creel/api"
	"creel/record"
)

func wantCheck(t *testing.T, l []api.Record, want api.Errno) {
	t.Helper()
	if err := Check(l); err != want {
		t.Errorf("Check(%q) = %d, want %d", l, err, want)
	}
}

func wantWrite(t *testing.T, l []api.Record, want string, wantErr api.Errno) {
	t.Helper()
	if s, err := Write(l); s != want || err != wantErr {
		t.Errorf("Write(%q) = %q, %d, want %q, %d", l, s, err, want, wantErr)
	}
}

func wantRead(t *testing.T, s string, want []api.Record, wantErr api.Errno) {
	t.Helper()
	if l, err := Read(s); !slices.Equal(l, want) || err != wantErr {
		t.Errorf("Read(%.200q) = %.200q, %d, want %.200q, %d", s, l, err, want, wantErr)
	}
}

func wantFind(t *testing.T, l []api.Record, key, want string, wantFound bool) {
	t.Helper()
	if value, found := Find(l, key); value != want || found != wantFound {
		t.Errorf("Find(%q, %q) = %q, %t, want %q, %t", l, key, value, found, want, wantFound)
	}
}

func xs(n int) string { return strings.Repeat("x", n) }

// records have these keys and values, in turn.
func records(texts ...string) []api.Record {
	var l []api.Record
	for i := 0; i < len(texts); i += 2 {
		l = append(l, api.Record{Key: texts[i], Value: texts[i+1]})
	}
	return l
}

// numbered are so many records with increasing keys.
func numbered(n int) []api.Record {
	var l []api.Record
	for i := range n {
		l = append(l, api.Record{Key: "k" + strconv.Itoa(100+i), Value: strings.Repeat("v", i)})
	}
	return l
}

// lines are the encodings of records whose keys may be in any order.
func lines(t *testing.T, l []api.Record) string {
	t.Helper()
	all := ""
	for _, r := range l {
		s, err := record.Write(r)
		if err != api.OK {
			t.Fatalf("no encoding of %q: %d", r, err)
		}
		all += s
	}
	return all
}

// with is a list with another record at a place.
func with(l []api.Record, at int, key, value string) []api.Record {
	l = slices.Clone(l)
	l[at] = api.Record{Key: key, Value: value}
	return l
}

// checks are lists of records, and what is wrong with them.
var checks = []struct {
	l   []api.Record
	err api.Errno
}{
	{nil, api.OK},
	{[]api.Record{}, api.OK},
	{records("a", ""), api.OK},
	{records("a", "", "b", ""), api.OK},
	{records("a", "x", "b", "x", "c", "x"), api.OK},
	{records("a", "z", "b", "y", "c", "x"), api.OK},
	{records(xs(60), xs(500)), api.OK},
	{numbered(11), api.OK},
	{numbered(12), api.OK},
	// Keys are compared byte by byte, as a whole.
	{records("a", "", "aa", ""), api.OK},
	{records("a", "", "ab", "", "b", ""), api.OK},
	{records("A", "", "Z", "", "a", "", "z", ""), api.OK},
	{records("10", "", "9", ""), api.OK},
	{records("\x00", "", "\x00\x00", "", "\x01", "", " ", ""), api.OK},
	{records("z", "", "\x7f", "", "\x80", "", "é", "", "\xff", ""), api.OK},
	{records(xs(59), "", xs(60), ""), api.OK},
	{records(xs(59)+"a", "", xs(59)+"b", ""), api.OK},
	{records("gid", "3000000", "gname", "g", "linkpath", "l", "mtime", "1.5", "path", "p", "uid", "0", "uname", "u"), api.OK},
	// A key that is not greater than the one ahead of it.
	{records("a", "", "a", ""), api.ErrTwice},
	{records("a", "x", "a", "y"), api.ErrTwice},
	{records("a", "y", "a", "x"), api.ErrTwice},
	{records("b", "", "a", ""), api.ErrTwice},
	{records("aa", "", "a", ""), api.ErrTwice},
	{records("a", "", "Z", ""), api.ErrTwice},
	{records("9", "", "10", ""), api.ErrTwice},
	{records("\xff", "", "\x80", ""), api.ErrTwice},
	{records("\x80", "", "a", ""), api.ErrTwice},
	{records("é", "", "z", ""), api.ErrTwice},
	{records("a\x00", "", "a", ""), api.ErrTwice},
	{records(xs(60), "", xs(60), ""), api.ErrTwice},
	{records(xs(59)+"b", "", xs(59)+"a", ""), api.ErrTwice},
	{records("a", "", "b", "", "b", ""), api.ErrTwice},
	{records("a", "", "b", "", "a", ""), api.ErrTwice},
	{records("a", "", "c", "", "b", ""), api.ErrTwice},
	{records("b", "", "a", "", "c", ""), api.ErrTwice},
	{with(numbered(12), 11, "k110", ""), api.ErrTwice},
	{with(numbered(12), 11, "k10", ""), api.ErrTwice},
	{with(numbered(12), 0, "k101", ""), api.ErrTwice},
	// A record that may not be, at its place.
	{records("", ""), api.ErrSize},
	{records(xs(61), ""), api.ErrSize},
	{records("a", xs(501)), api.ErrSize},
	{records("a=", ""), api.ErrForm},
	{records("a\n", ""), api.ErrForm},
	{records("a", "\x00"), api.ErrForm},
	{records("a", "", "b", xs(501)), api.ErrSize},
	{records("a", "", "b=", ""), api.ErrForm},
	{records("a", "", "b", "\x00"), api.ErrForm},
	{records("a", "", "b", "", "c\n", ""), api.ErrForm},
	{with(numbered(12), 11, "z", "\x00"), api.ErrForm},
	{with(numbered(12), 11, xs(61), ""), api.ErrSize},
	{with(numbered(12), 5, "k105=", ""), api.ErrForm},
	// The first record with an error counts, and the record ahead of its order.
	{records("a=", "", "b", xs(501)), api.ErrForm},
	{records("a", xs(501), "b=", ""), api.ErrSize},
	{records("b", "", "a=", ""), api.ErrForm},
	{records("b", "", "a", xs(501)), api.ErrSize},
	{records("b", "", "b", "\x00"), api.ErrForm},
	{records("a", "", "", ""), api.ErrSize},
	{records("b", "", "a", "", "c=", ""), api.ErrTwice},
	{records("b", "", "a", "", "c", xs(501)), api.ErrTwice},
	{records("b", "", "a", "", "", ""), api.ErrTwice},
	{records("b=", "", "a", "", "", ""), api.ErrForm},
	{records("", "", "", ""), api.ErrSize},
	{records("a=", "", "a=", ""), api.ErrForm},
	{records("c", "", "d=", "", "a", ""), api.ErrForm},
	// Too many of them, which is checked first.
	{numbered(13), api.ErrSize},
	{numbered(14), api.ErrSize},
	{numbered(100), api.ErrSize},
	{with(numbered(13), 0, "a=", ""), api.ErrSize},
	{with(numbered(13), 12, "a=", ""), api.ErrSize},
	{with(numbered(13), 0, "z", ""), api.ErrSize},
	{with(numbered(13), 12, "a", ""), api.ErrSize},
	{slices.Repeat(records("a", "\x00"), 13), api.ErrSize},
	{slices.Repeat(records("a", ""), 13), api.ErrSize},
	{slices.Repeat(records("a", ""), 12), api.ErrTwice},
	{slices.Repeat(records("a", "\x00"), 12), api.ErrForm},
}

// P7.1
func TestCheck(t *testing.T) {
	for _, c := range checks {
		wantCheck(t, c.l, c.err)
	}
}

// checkByWords does what P7.1 tells, one condition after the other.
func checkByWords(l []api.Record) api.Errno {
	if len(l) > 12 {
		return api.ErrSize
	}
	before := ""
	for i, r := range l {
		switch err := record.Check(r); {
		case err != api.OK:
			return err
		case i > 0 && strings.Compare(r.Key, before) < 1:
			return api.ErrTwice
		}
		before = r.Key
	}
	return api.OK
}

// P7.1 to P7.3: all short lists of some records.
func TestEveryShort(t *testing.T) {
	some := records("a", "", "b", "x", "b", "", "ab", "y", "\xff", "", "=", "", "b", "\x00", "", "", "a", xs(501))
	all := [][]api.Record{nil}
	for i := 0; i < len(all); i++ {
		err := checkByWords(all[i])
		wantCheck(t, all[i], err)
		if err == api.OK {
			s := lines(t, all[i])
			wantWrite(t, all[i], s, api.OK)
			wantRead(t, s, all[i], api.OK)
		} else {
			wantWrite(t, all[i], "", err)
		}
		for k := range some {
			if len(all[i]) < 4 {
				all = append(all, append(slices.Clone(all[i]), some[k]))
			}
		}
	}
}

// P7.1: a key that is out of order, and a record that may not be, at each place.
func TestCheckEveryPlace(t *testing.T) {
	for n := range 14 {
		for i := range n {
			l := numbered(n)
			key := l[i].Key
			for _, c := range []api.Record{
				{Key: ""}, {Key: "a"}, {Key: "z"}, {Key: key + "="}, {Key: key, Value: "\x00"}, {Key: key, Value: xs(501)}, {Key: l[(i+1)%n].Key}, {Key: l[(i+n-1)%n].Key},
			} {
				wrong := with(l, i, c.Key, c.Value)
				wantCheck(t, wrong, checkByWords(wrong))
			}
		}
	}
}

// P7.2
func TestWrite(t *testing.T) {
	wantWrite(t, nil, "", api.OK)
	wantWrite(t, []api.Record{}, "", api.OK)
	wantWrite(t, records("a", ""), "5 a=\n", api.OK)
	wantWrite(t, records("a", "", "b", "c"), "5 a=\n6 b=c\n", api.OK)
	wantWrite(t, records("a", "=", "b", "\n"), "6 a==\n6 b=\n\n", api.OK)
	wantWrite(t, records("kkkk", "v", "kkkkk", "v"), "9 kkkk=v\n11 kkkkk=v\n", api.OK)
	wantWrite(t, records("mtime", "-0.5", "path", "a/b"), "14 mtime=-0.5\n12 path=a/b\n", api.OK)
	wantWrite(t, records("a", xs(93), "b", xs(94)), "99 a="+xs(93)+"\n101 b="+xs(94)+"\n", api.OK)
	wantWrite(t, records("a", "5 a=\n", "b", "6 b=c\n"), "11 a=5 a=\n\n12 b=6 b=c\n\n", api.OK)
	wantWrite(t, records("\x00", "\xff", "\xff", "é"), "6 \x00=\xff\n7 \xff=é\n", api.OK)
}

// P7.2: the errors of Check.
func TestWriteErrors(t *testing.T) {
	for _, c := range checks {
		want := ""
		if c.err == api.OK {
			want = lines(t, c.l)
		}
		wantWrite(t, c.l, want, c.err)
	}
	wantWrite(t, records("b", "", "a", ""), "", api.ErrTwice)
	wantWrite(t, records("a", "", "b", "\x00"), "", api.ErrForm)
	wantWrite(t, numbered(13), "", api.ErrSize)
}

// P7.2 and P7.3: every number of records.
func TestEveryNumber(t *testing.T) {
	for n := range 40 {
		l := numbered(n)
		s := lines(t, l)
		if n > 12 {
			wantWrite(t, l, "", api.ErrSize)
			wantRead(t, s, nil, api.ErrSize)
			continue
		}
		wantWrite(t, l, s, api.OK)
		wantRead(t, s, l, api.OK)
	}
}

// P7.3
func TestRead(t *testing.T) {
	wantRead(t, "", nil, api.OK)
	wantRead(t, "5 a=\n", records("a", ""), api.OK)
	wantRead(t, "5 a=\n6 b=c\n", records("a", "", "b", "c"), api.OK)
	wantRead(t, "6 a==\n6 b=\n\n", records("a", "=", "b", "\n"), api.OK)
	wantRead(t, "14 mtime=-0.5\n12 path=a/b\n", records("mtime", "-0.5", "path", "a/b"), api.OK)
	wantRead(t, "11 a=5 a=\n\n12 b=6 b=c\n\n", records("a", "5 a=\n", "b", "6 b=c\n"), api.OK)
	wantRead(t, "6 \x00=\xff\n7 \xff=é\n", records("\x00", "\xff", "\xff", "é"), api.OK)
	for _, c := range checks {
		if c.err == api.OK {
			wantRead(t, lines(t, c.l), c.l, api.OK)
		}
	}
}

// P7.3: records as long as they may be, one behind the other.
func TestReadLong(t *testing.T) {
	var l []api.Record
	for i := range 12 {
		l = append(l, api.Record{Key: xs(59) + string(rune('a'+i)), Value: strings.Repeat(string(rune('A'+i)), 500)})
	}
	s := lines(t, l)
	if len(s) != 12*566 {
		t.Fatalf("%d bytes", len(s))
	}
	wantRead(t, s, l, api.OK)
	wantRead(t, s+"5 z=\n", nil, api.ErrSize)
	wantRead(t, s[:len(s)-1], nil, api.ErrShort)
	wantRead(t, s[:len(s)-566]+"5 z=\n", append(slices.Clone(l[:11]), api.Record{Key: "z"}), api.OK)
	wantRead(t, s[566:]+s[:566], nil, api.ErrTwice)
}

// P7.3: the first error of record.Read.
func TestReadErrors(t *testing.T) {
	for _, bad := range []struct {
		s   string
		err api.Errno
	}{
		{"6", api.ErrForm},
		{"x", api.ErrForm},
		{" ", api.ErrForm},
		{"\n", api.ErrForm},
		{"\x00", api.ErrForm},
		{"05 z=\n", api.ErrForm},
		{"-5 z=\n", api.ErrForm},
		{"10000 z=\n", api.ErrForm},
		{"6 z=\n", api.ErrShort},
		{"5 z=", api.ErrShort},
		{"9999 z=\n", api.ErrShort},
		{"567 z=\n", api.ErrShort},
		{"2 z=\n", api.ErrForm},
		{"4 z=\n", api.ErrForm},
		{"5 z=y\n", api.ErrForm},
		{"4 z\n", api.ErrForm},
		{"4 =\n", api.ErrSize},
		{"6 \nz=\n", api.ErrForm},
		{"6 z=\x00\n", api.ErrForm},
		{"10 kkkk=v\n", api.ErrForm},
		{"506 z=" + xs(500) + "\n", api.ErrForm},
		{"508 z=" + xs(501) + "\n", api.ErrSize},
		{"567 " + xs(60) + "=" + xs(501) + "\n", api.ErrSize},
		{"567 " + xs(61) + "=" + xs(500) + "\n", api.ErrSize},
		{"567 " + xs(60) + "=" + xs(500) + "\n", api.ErrShort},
		{"600 " + xs(60) + "=" + xs(534) + "\n", api.ErrSize},
		{"600 " + xs(60) + "=" + xs(535) + "\n", api.ErrForm},
		{"600 " + xs(595) + "\n", api.ErrForm},
		{"9999 z=" + xs(9991) + "\n", api.ErrSize},
		{"9999 z=" + xs(9990) + "\n", api.ErrShort},
	} {
		wantRead(t, bad.s, nil, bad.err)
		wantRead(t, "5 a=\n"+bad.s, nil, bad.err)
		wantRead(t, "506 a="+xs(499)+"\n6 b=c\n"+bad.s, nil, bad.err)
		// What is wrong with the list of all records is checked only if all of them can be read.
		wantRead(t, "5 b=\n5 a=\n"+bad.s, nil, bad.err)
		wantRead(t, "5 a=\n5 a=\n"+bad.s, nil, bad.err)
		wantRead(t, strings.Repeat("5 a=\n", 12)+bad.s, nil, bad.err)
		wantRead(t, strings.Repeat("5 a=\n", 13)+bad.s, nil, bad.err)
		wantRead(t, strings.Repeat("5 a=\n", 1000)+bad.s, nil, bad.err)
		wantRead(t, lines(t, numbered(13))+bad.s, nil, bad.err)
	}
	// The first error is that of the first record that has one.
	wantRead(t, "4 =\n4 z\n", nil, api.ErrSize)
	wantRead(t, "4 z\n4 =\n", nil, api.ErrForm)
	wantRead(t, "5 z=\n4 =\n9 z", nil, api.ErrSize)
	wantRead(t, "5 a=\n\n", nil, api.ErrForm)
	wantRead(t, "5 a=\n\x00\x00\x00", nil, api.ErrForm)
}

// P7.3: the errors of Check.
func TestReadCheck(t *testing.T) {
	wantRead(t, "6 b=c\n5 a=\n", nil, api.ErrTwice)
	wantRead(t, "5 a=\n5 a=\n", nil, api.ErrTwice)
	wantRead(t, "5 a=\n6 a=b\n", nil, api.ErrTwice)
	wantRead(t, "5 a=\n5 b=\n5 a=\n", nil, api.ErrTwice)
	wantRead(t, strings.Repeat("5 a=\n", 12), nil, api.ErrTwice)
	wantRead(t, strings.Repeat("5 a=\n", 13), nil, api.ErrSize)
	wantRead(t, strings.Repeat("5 a=\n", 14), nil, api.ErrSize)
	wantRead(t, strings.Repeat("5 a=\n", 100), nil, api.ErrSize)
	for _, c := range checks {
		if !slices.ContainsFunc(c.l, func(r api.Record) bool { return record.Check(r) != api.OK }) {
			want := c.l
			if c.err != api.OK {
				want = nil
			}
			wantRead(t, lines(t, c.l), want, c.err)
		}
	}
}

// P7.3, and the rule that every function terminates: a great many records.
func TestReadMany(t *testing.T) {
	const many = 200000
	s := strings.Repeat("5 a=\n", many)
	wantRead(t, s, nil, api.ErrSize)
	wantRead(t, s+"6", nil, api.ErrForm)
	wantRead(t, s+"6 a=\n", nil, api.ErrShort)
	wantRead(t, "6 a=\n"+s, nil, api.ErrForm)
}

// readByWords does what P7.3 tells, one condition after the other.
func readByWords(s string) ([]api.Record, api.Errno) {
	var l []api.Record
	for len(s) > 0 {
		r, rest, err := record.Read(s)
		if err != api.OK {
			return nil, err
		}
		l, s = append(l, r), rest
	}
	if err := checkByWords(l); err != api.OK {
		return nil, err
	}
	return l, api.OK
}

func wantReadByWords(t *testing.T, s string) {
	t.Helper()
	l, err := readByWords(s)
	wantRead(t, s, l, err)
}

// P7.3: every number in front of texts of many sizes, with another record ahead of them.
func TestReadEveryNumber(t *testing.T) {
	for _, body := range []string{
		"", "=\n", "b=\n", "b=c\n", "b=c\n5 c=\n", "b=" + strings.Repeat("\n", 700), strings.Repeat("b=\n", 400), xs(60) + "=" + strings.Repeat("\n", 700),
		xs(60) + "=" + xs(500) + "\n", xs(60) + "=" + xs(500) + "\n" + strings.Repeat("5 y=\n", 13), "b=" + strings.Repeat("\n", 12000),
	} {
		for n := range 1200 {
			wantReadByWords(t, "5 a=\n"+strconv.Itoa(n)+" "+body)
		}
		for _, n := range []int{9998, 9999, 10000, 10001} {
			wantReadByWords(t, "5 a=\n"+strconv.Itoa(n)+" "+body)
		}
	}
}

// P7.3: every byte in place of, and in front of, every byte of a text; and every byte left out.
func TestReadEveryByte(t *testing.T) {
	for _, s := range []string{"5 a=\n6 b=c\n", "6 a=b\n9 kkkk=v\n5 z=\n", "5 a=\n101 b=" + xs(94) + "\n", strings.Repeat("5 a=\n", 13)} {
		for i := range len(s) + 1 {
			wantReadByWords(t, s[:i])
			for b := range 256 {
				wantReadByWords(t, s[:i]+string([]byte{byte(b)})+s[i:])
				wantReadByWords(t, s[:i]+string([]byte{byte(b)})+s[min(i+1, len(s)):])
			}
			wantReadByWords(t, s[:i]+s[min(i+1, len(s)):])
		}
	}
}

// P7.3: all short texts of some parts.
func TestReadEveryShort(t *testing.T) {
	parts := []string{"5 a=\n", "6 b=c\n", "5 c=\n", "5 c=", "\n", "6 ", "a", "10 kkkk=v\n", "566 " + xs(60) + "=" + xs(500) + "\n"}
	type text struct {
		s string
		n int
	}
	all := []text{{"", 0}}
	for i := 0; i < len(all); i++ {
		wantReadByWords(t, all[i].s)
		for _, part := range parts {
			if all[i].n < 4 {
				all = append(all, text{all[i].s + part, all[i].n + 1})
			}
		}
	}
}

// P7.4
func TestFind(t *testing.T) {
	l := records("a", "x", "ab", "y", "b", "", "c", "=\n\x00")
	wantFind(t, l, "a", "x", true)
	wantFind(t, l, "ab", "y", true)
	wantFind(t, l, "b", "", true)
	wantFind(t, l, "c", "=\n\x00", true)
	for _, key := range []string{"", "A", "x", "y", "abc", "aa", "d", "a\x00", "a=", "a=x", " a", "bb", "c ", "B", "\xff"} {
		wantFind(t, l, key, "", false)
	}
	for _, key := range []string{"", "a", "\x00"} {
		wantFind(t, nil, key, "", false)
		wantFind(t, []api.Record{}, key, "", false)
		wantFind(t, []api.Record{}[:0:0], key, "", false)
	}
	for i, r := range numbered(100) {
		wantFind(t, numbered(100), r.Key, strings.Repeat("v", i), true)
	}
}

// P7.4: the first record counts, in lists that need not be in order, with records that may not be.
func TestFindFirst(t *testing.T) {
	wantFind(t, records("a", "1", "a", "2"), "a", "1", true)
	wantFind(t, records("a", "", "a", "2"), "a", "", true)
	wantFind(t, records("a", "1", "a", ""), "a", "1", true)
	wantFind(t, records("b", "1", "a", "2", "b", "3", "a", "4"), "a", "2", true)
	wantFind(t, records("b", "1", "a", "2", "b", "3", "a", "4"), "b", "1", true)
	wantFind(t, records("c", "1", "b", "2", "a", "3"), "a", "3", true)
	wantFind(t, records("c", "1", "b", "2", "a", "3"), "c", "1", true)
	wantFind(t, records("", "1", "=", "\x00", "\n", xs(1000), xs(100), "2"), "", "1", true)
	wantFind(t, records("", "1", "=", "\x00", "\n", xs(1000), xs(100), "2"), "=", "\x00", true)
	wantFind(t, records("", "1", "=", "\x00", "\n", xs(1000), xs(100), "2"), "\n", xs(1000), true)
	wantFind(t, records("", "1", "=", "\x00", "\n", xs(1000), xs(100), "2"), xs(100), "2", true)
	wantFind(t, slices.Repeat(records("a", "1", "b", "2"), 100), "b", "2", true)
}

// P7.1 to P7.4: lists are left as they are, with what their capacity holds; and results do not share memory.
func TestMemory(t *testing.T) {
	for _, c := range checks {
		all := append(slices.Clone(c.l), records("behind", "1", "it", "2")...)
		before := slices.Clone(all)
		l := all[:len(c.l)]
		Check(l)
		Write(l)
		Find(l, "a")
		Find(l, "z")
		if !slices.Equal(all, before) {
			t.Errorf("%q has become %q", before, all)
		}
	}
	one, _ := Read("5 a=\n6 b=c\n")
	two, _ := Read("5 a=\n6 b=c\n")
	one[0].Key = "z"
	if two[0].Key != "a" {
		t.Errorf("two results share memory: %q", two)
	}
}
