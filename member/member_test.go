package member

import (
	"bytes"
	"fmt"
	"math"
	"math/rand"
	"reflect"
	"slices"
	"strings"
	"testing"
	"time"
	"unsafe"

	"creel/api"
	"creel/head"
	"creel/pax"
	"creel/plan"
)

// owner is metadata with nothing wrong in it, no field of value zero, and all of it with room in a head.
var owner = api.Meta{Mode: 0o644, UID: 1000, GID: 100, User: "ann", Group: "staff", Second: 1700000000}

func xs(n int) string { return strings.Repeat("x", n) }

// dir, file, sym and hard are members of each kind.
func dir(s string) api.Entry { return api.Entry{Path: s, Kind: api.Dir} }

func file(s, data string) api.Entry {
	return api.Entry{Path: s, Kind: api.File, Data: []byte(data)}
}

func sym(s, target string) api.Entry { return api.Entry{Path: s, Kind: api.Sym, Target: target} }

func hard(s, target string) api.Entry { return api.Entry{Path: s, Kind: api.Link, Target: target} }

func owned(x api.Entry) api.Entry {
	x.Meta = owner
	return x
}

func with(x api.Entry, changes ...func(*api.Entry)) api.Entry {
	for _, change := range changes {
		change(&x)
	}
	return x
}

func withMeta(m api.Meta) api.Entry { return api.Entry{Path: "a", Kind: api.Dir, Meta: m} }

// records of keys and values, one after the other.
func records(l ...string) []api.Record {
	var all []api.Record
	for i := 0; i < len(l); i += 2 {
		all = append(all, api.Record{Key: l[i], Value: l[i+1]})
	}
	return all
}

// long is a path of so many bytes that cannot be split if they are more than 100.
func long(size int) string { return strings.Repeat("y", size) }

// full has something in every record.
func full() api.Entry {
	m := api.Meta{Mode: 0o7777, UID: 2097153, GID: 2097152, User: "u" + xs(31), Group: "g" + xs(59), Second: 1 << 33, Nano: 5}
	return api.Entry{Path: long(400), Kind: api.Link, Target: xs(400), Meta: m}
}

// fullRecords are the records of the full member.
func fullRecords() []api.Record {
	return records("gid", "2097152", "gname", "g"+xs(59), "linkpath", xs(400), "mtime", "8589934592.000000005", "path", long(400), "uid", "2097153", "uname", "u"+xs(31))
}

func wantRecords(t *testing.T, x api.Entry, want []api.Record) {
	t.Helper()
	l, err := Records(x)
	if err != api.OK || len(l) != len(want) || len(l) > 0 && !reflect.DeepEqual(l, want) {
		t.Errorf("Records of %+v: %q, %d; want %q", x, l, err, want)
	}
}

func wantHead(t *testing.T, x api.Entry, want api.Head) {
	t.Helper()
	if h, err := Head(x); h != want || err != api.OK {
		t.Errorf("Head of %+v: %+v, %d; want %+v", x, h, err, want)
	}
}

func wantWrite(t *testing.T, x api.Entry, want string) {
	t.Helper()
	if b, err := Write(x); string(b) != want || err != api.OK {
		t.Errorf("Write of %+v: %q, %d; want %q", x, b, err, want)
	}
}

func wantRead(t *testing.T, b string, want api.Entry, wantSize int) {
	t.Helper()
	x, size, err := Read([]byte(b))
	if fmt.Sprintf("%q", fmt.Sprint(x)) != fmt.Sprintf("%q", fmt.Sprint(want)) || size != wantSize || err != api.OK {
		t.Errorf("Read of %q: %+v, %d, %d; want %+v, %d", b, x, size, err, want, wantSize)
	}
}

func wantReadError(t *testing.T, what, b string, want api.Errno) {
	t.Helper()
	x, size, err := Read([]byte(b))
	if !reflect.DeepEqual(x, api.Entry{}) || size != 0 || err != want {
		t.Errorf("Read of %s: %+v, %d, %d; want nothing, 0, %d", what, x, size, err, want)
	}
}

// wantError tells that all functions that take a member return an error, and nothing beside it.
func wantError(t *testing.T, x api.Entry, want api.Errno) {
	t.Helper()
	if l, err := Records(x); len(l) != 0 || err != want {
		t.Errorf("Records of %+v: %v, %d; want none, %d", x, l, err, want)
	}
	if h, err := Head(x); h != (api.Head{}) || err != want {
		t.Errorf("Head of %+v: %v, %d; want a zero one, %d", x, h, err, want)
	}
	if b, err := Write(x); len(b) != 0 || err != want {
		t.Errorf("Write of %+v: %q, %d; want nothing, %d", x, b, err, want)
	}
}

// P17.1: each record, at the limits of what its field has room for.
func TestRecordsNumbers(t *testing.T) {
	for n, want := range map[int]string{0: "", 1: "", 2097150: "", 2097151: "", 2097152: "2097152", 2097153: "2097153", 1 << 33: "8589934592", 1 << 50: "1125899906842624"} {
		var uid, gid []api.Record
		if want != "" {
			uid, gid = records("uid", want), records("gid", want)
		}
		wantRecords(t, withMeta(api.Meta{UID: n}), uid)
		wantRecords(t, withMeta(api.Meta{GID: n}), gid)
		wantRecords(t, withMeta(api.Meta{UID: n, GID: n}), append(gid, uid...))
	}
	for _, mode := range []int{0, 1, 4095} {
		wantRecords(t, withMeta(api.Meta{Mode: mode}), nil)
	}
}

// P17.1: names of owners are counted in bytes.
func TestRecordsNames(t *testing.T) {
	for _, s := range []string{"", "a", xs(30), xs(31), xs(32), xs(60), strings.Repeat("é", 15), strings.Repeat("é", 16), "\n=" + xs(29), "\n=" + xs(30), strings.Repeat("\xff", 32)} {
		var user, group []api.Record
		if len(s) > 31 {
			user, group = records("uname", s), records("gname", s)
		}
		wantRecords(t, withMeta(api.Meta{User: s}), user)
		wantRecords(t, withMeta(api.Meta{Group: s}), group)
		wantRecords(t, withMeta(api.Meta{User: s, Group: s}), append(group, user...))
	}
}

// P17.1: targets are not split, even where a path would be.
func TestRecordsTargets(t *testing.T) {
	for _, s := range []string{"a", xs(99), xs(100), xs(101), xs(400), xs(60) + "/" + xs(39), xs(60) + "/" + xs(60), strings.Repeat("é", 50), strings.Repeat("é", 51)} {
		var want []api.Record
		if len(s) > 100 {
			want = records("linkpath", s)
		}
		wantRecords(t, sym("a", s), want)
		wantRecords(t, hard("a", s), want)
	}
	for _, s := range []string{strings.Repeat("/", 100), strings.Repeat("/", 101), "../" + xs(98), "\n=" + xs(398)} {
		var want []api.Record
		if len(s) > 100 {
			want = records("linkpath", s)
		}
		wantRecords(t, sym("a", s), want)
	}
}

// P17.1: times.
func TestRecordsTimes(t *testing.T) {
	for _, c := range []struct {
		second, nano int
		want         string
	}{
		{0, 0, ""}, {1, 0, ""}, {1<<33 - 1, 0, ""}, {1 << 33, 0, "8589934592"}, {1<<33 + 1, 0, "8589934593"}, {1 << 40, 0, "1099511627776"},
		{-1, 0, "-1"}, {-1 << 40, 0, "-1099511627776"}, {0, 1, "0.000000001"}, {0, 999999999, "0.999999999"}, {5, 500000000, "5.5"},
		{-1, 1, "-0.999999999"}, {-1, 500000000, "-0.5"}, {-2, 500000000, "-1.5"}, {1<<33 - 1, 1, "8589934591.000000001"},
		{1 << 33, 250000000, "8589934592.25"}, {1 << 40, 999999999, "1099511627776.999999999"}, {-1 << 40, 999999999, "-1099511627775.000000001"},
	} {
		var want []api.Record
		if c.want != "" {
			want = records("mtime", c.want)
		}
		wantRecords(t, withMeta(api.Meta{Second: c.second, Nano: c.nano}), want)
	}
}

// splits tells by the words of P4.1 whether a path can be split.
func splits(s string) bool {
	if len(s) <= 100 {
		return true
	}
	for i := range len(s) {
		if s[i] == '/' && 1 <= i && i <= 155 && 1 <= len(s)-1-i && len(s)-1-i <= 100 {
			return true
		}
	}
	return false
}

// P17.1: paths of all sizes with a slash at any place, or none.
func TestRecordsPaths(t *testing.T) {
	for size := 1; size <= 400; size++ {
		for at := 0; at < size-1; at++ {
			s := long(size)
			if at > 0 {
				s = long(at) + "/" + long(size-at-1)
			}
			var want []api.Record
			if !splits(s) {
				want = records("path", s)
			}
			wantRecords(t, dir(s), want)
		}
	}
	for _, s := range []string{long(101), long(156) + "/a", "a/" + long(101), long(155) + "/" + long(101), long(400), "\n=" + long(99)} {
		wantRecords(t, dir(s), records("path", s))
	}
	for _, s := range []string{long(100), long(155) + "/" + long(100), long(155) + "/a", "a/" + long(100), long(50) + "/a/" + long(80)} {
		wantRecords(t, dir(s), nil)
	}
}

// P17.1: all records at one time, in the order of their keys; none for what has room; the kind does not count.
func TestRecords(t *testing.T) {
	wantRecords(t, full(), fullRecords())
	for _, x := range []api.Entry{dir("a"), file("a/b", ""), file("a", xs(2000)), sym("a", "b"), hard("a", "b"), owned(dir("a")), owned(file("a", "x")), owned(sym("a", "b")), owned(hard("a", "b"))} {
		wantRecords(t, x, nil)
		x.Meta = full().Meta
		wantRecords(t, x, slices.Concat(fullRecords()[:2], fullRecords()[3:4], fullRecords()[5:]))
	}
	wantRecords(t, withMeta(api.Meta{UID: 2097152, Second: -1, Nano: 1}), records("mtime", "-0.999999999", "uid", "2097152"))
}

// subset is the full member with only the fields of some records, in the order of their keys, and of all others those that
// have room in a head; beside it are its records, and its head.
func subset(bits int) (api.Entry, []api.Record, api.Head) {
	x, all := full(), full()
	x.Path, x.Target, x.Meta = "p/q", "t", owner
	h := api.Head{Name: "p/q", Link: "t", Mode: owner.Mode, UID: owner.UID, GID: owner.GID, Time: owner.Second, Type: '1', User: owner.User, Group: owner.Group}
	var l []api.Record
	for i, change := range []func(){
		func() { x.Meta.GID, h.GID = all.Meta.GID, 0 },
		func() { x.Meta.Group, h.Group = all.Meta.Group, "" },
		func() { x.Target, h.Link = all.Target, "@long" },
		func() { x.Meta.Second, x.Meta.Nano, h.Time = all.Meta.Second, all.Meta.Nano, 0 },
		func() { x.Path, h.Name, h.Prefix = all.Path, "@long", "" },
		func() { x.Meta.UID, h.UID = all.Meta.UID, 0 },
		func() { x.Meta.User, h.User = all.Meta.User, "" },
	} {
		if bits>>i&1 == 1 {
			change()
			l = append(l, fullRecords()[i])
		}
	}
	return x, l, h
}

// P17.1 to P17.4: every set of records.
func TestSubsets(t *testing.T) {
	for bits := range 1 << 7 {
		x, l, h := subset(bits)
		wantRecords(t, x, l)
		wantHead(t, x, h)
		want := block(h)
		if len(l) > 0 {
			want = padded(block(api.Head{Name: "@pax", Type: 'x', Size: len(lines(l))})+lines(l)) + want
		}
		wantWrite(t, x, want)
		wantRead(t, want+"behind", x, len(want))
	}
}

// P17.2
func TestHead(t *testing.T) {
	wantHead(t, dir("a"), api.Head{Name: "a", Type: '5'})
	wantHead(t, file("a/b", ""), api.Head{Name: "a/b", Type: '0'})
	wantHead(t, file("a", "x"), api.Head{Name: "a", Type: '0', Size: 1})
	wantHead(t, file("a", xs(2000)), api.Head{Name: "a", Type: '0', Size: 2000})
	wantHead(t, sym("a", "../b\n"), api.Head{Name: "a", Type: '2', Link: "../b\n"})
	wantHead(t, hard("a", "b/c"), api.Head{Name: "a", Type: '1', Link: "b/c"})
	wantHead(t, sym("@long", "@long"), api.Head{Name: "@long", Type: '2', Link: "@long"})
	wantHead(t, owned(file("a", "xy")), api.Head{Name: "a", Type: '0', Size: 2, Mode: 0o644, UID: 1000, GID: 100, User: "ann", Group: "staff", Time: 1700000000})
	wantHead(t, full(), api.Head{Name: "@long", Link: "@long", Mode: 0o7777, Type: '1'})
}

// P17.2: the limits of the fields.
func TestHeadLimits(t *testing.T) {
	m := api.Meta{Mode: 4095, UID: 2097151, GID: 2097151, User: xs(31), Group: long(31), Second: 1<<33 - 1}
	h := api.Head{Name: "a", Type: '5', Mode: 4095, UID: 2097151, GID: 2097151, User: xs(31), Group: long(31), Time: 1<<33 - 1}
	wantHead(t, withMeta(m), h)
	wantHead(t, withMeta(api.Meta{UID: 2097152}), api.Head{Name: "a", Type: '5'})
	wantHead(t, withMeta(api.Meta{GID: 2097152}), api.Head{Name: "a", Type: '5'})
	wantHead(t, withMeta(api.Meta{User: xs(32)}), api.Head{Name: "a", Type: '5'})
	wantHead(t, withMeta(api.Meta{Group: xs(32)}), api.Head{Name: "a", Type: '5'})
	wantHead(t, withMeta(api.Meta{Second: 7, Nano: 1}), api.Head{Name: "a", Type: '5'})
	wantHead(t, withMeta(api.Meta{Second: 1 << 33}), api.Head{Name: "a", Type: '5'})
	wantHead(t, withMeta(api.Meta{Second: -1}), api.Head{Name: "a", Type: '5'})
	for _, kind := range []int{api.Sym, api.Link} {
		mark := map[int]byte{api.Sym: '2', api.Link: '1'}[kind]
		wantHead(t, api.Entry{Path: "a", Kind: kind, Target: xs(100)}, api.Head{Name: "a", Type: mark, Link: xs(100)})
		wantHead(t, api.Entry{Path: "a", Kind: kind, Target: xs(101)}, api.Head{Name: "a", Type: mark, Link: "@long"})
		wantHead(t, api.Entry{Path: "a", Kind: kind, Target: "a/" + xs(99)}, api.Head{Name: "a", Type: mark, Link: "@long"})
	}
}

// P17.2: paths that are split, and those that cannot be.
func TestHeadPaths(t *testing.T) {
	for _, c := range []struct{ path, prefix, name string }{
		{long(100), "", long(100)},
		{long(50) + "/" + xs(49), "", long(50) + "/" + xs(49)},
		{long(101), "", "@long"},
		{long(50) + "/" + xs(50), long(50), xs(50)},
		{"a/b/" + xs(97), "a", "b/" + xs(97)},
		{"a/b/" + xs(98), "a", "b/" + xs(98)},
		{"a/b/" + xs(99), "a/b", xs(99)},
		{"a/b/" + xs(100), "a/b", xs(100)},
		{"a/b/" + xs(101), "", "@long"},
		{long(155) + "/" + xs(100), long(155), xs(100)},
		{long(155) + "/" + xs(101), "", "@long"},
		{long(156) + "/" + xs(100), "", "@long"},
		{long(30) + "/" + xs(89), long(30), xs(89)},
		{"@long/" + xs(100), "@long", xs(100)},
	} {
		wantHead(t, dir(c.path), api.Head{Prefix: c.prefix, Name: c.name, Type: '5'})
	}
}

// put is a field: a string and bytes 0 behind it.
func put(s string, width int) string { return s + strings.Repeat("\x00", width-len(s)) }

// block of a head by the words of chapter 8.
func block(h api.Head) string {
	front := put(h.Name, 100) + fmt.Sprintf("%07o\x00%07o\x00%07o\x00%011o\x00%011o\x00", h.Mode, h.UID, h.GID, h.Size, h.Time)
	back := string(rune(h.Type)) + put(h.Link, 100) + "ustar\x0000" + put(h.User, 32) + put(h.Group, 32) + "0000000\x000000000\x00" + put(h.Prefix, 155) + put("", 12)
	return summed(front + "        " + back)
}

// summed is a block with the sum that it should have.
func summed(s string) string {
	s = s[:148] + "        " + s[156:]
	sum := 0
	for i := range len(s) {
		sum += int(s[i])
	}
	return s[:148] + fmt.Sprintf("%06o\x00 ", sum) + s[156:]
}

// lines of records by the words of chapter 6.
func lines(l []api.Record) string {
	text := ""
	for _, r := range l {
		line, n := "", 0
		for len(line) != n || n == 0 {
			n++
			line = fmt.Sprintf("%d %s=%s\n", n, r.Key, r.Value)
		}
		text += line
	}
	return text
}

// padded is a string of whole blocks.
func padded(s string) string {
	return s + strings.Repeat("\x00", (512-len(s)%512)%512)
}

// extended is an encoding with records, which need not be those of a member.
func extended(text string, h api.Head) string {
	return padded(block(api.Head{Name: "@pax", Type: 'x', Size: len(text)})+text) + block(h)
}

// P17.3: encodings without records.
func TestWrite(t *testing.T) {
	for _, c := range []struct {
		x    api.Entry
		want string
	}{
		{dir("a"), block(api.Head{Name: "a", Type: '5'})},
		{file("a/b", ""), block(api.Head{Name: "a/b", Type: '0'})},
		{file("a", "x"), padded(block(api.Head{Name: "a", Type: '0', Size: 1}) + "x")},
		{file("a", "\x00"), padded(block(api.Head{Name: "a", Type: '0', Size: 1}))[:512] + put("", 512)},
		{file("a", xs(511)), padded(block(api.Head{Name: "a", Type: '0', Size: 511}) + xs(511))},
		{file("a", xs(512)), block(api.Head{Name: "a", Type: '0', Size: 512}) + xs(512)},
		{file("a", xs(513)), padded(block(api.Head{Name: "a", Type: '0', Size: 513}) + xs(513))},
		{file("a", xs(2000)), padded(block(api.Head{Name: "a", Type: '0', Size: 2000}) + xs(2000))},
		{sym("a", "../b"), block(api.Head{Name: "a", Type: '2', Link: "../b"})},
		{hard("a", "b"), block(api.Head{Name: "a", Type: '1', Link: "b"})},
		{owned(dir("a/b/" + xs(100))), block(api.Head{Prefix: "a/b", Name: xs(100), Type: '5', Mode: 0o644, UID: 1000, GID: 100, User: "ann", Group: "staff", Time: 1700000000})},
	} {
		wantWrite(t, c.x, c.want)
		wantRead(t, c.want, c.x, len(c.want))
	}
	for n := range 2001 {
		if b, err := Write(file("a", xs(n))); len(b) != 512+(n+511)/512*512 || err != api.OK {
			t.Errorf("Write of %d bytes: %d bytes, %d", n, len(b), err)
		}
	}
}

// P17.3: encodings with records.
func TestWriteRecords(t *testing.T) {
	x := withMeta(api.Meta{Nano: 1})
	wantWrite(t, x, extended("21 mtime=0.000000001\n", api.Head{Name: "a", Type: '5'}))
	x = withMeta(api.Meta{UID: 2097152, Second: -1, Nano: 1})
	wantWrite(t, x, extended("22 mtime=-0.999999999\n15 uid=2097152\n", api.Head{Name: "a", Type: '5'}))
	wantWrite(t, full(), extended(lines(fullRecords()), api.Head{Name: "@long", Link: "@long", Mode: 0o7777, Type: '1'}))
	wantWrite(t, dir(long(101)), extended("111 path="+long(101)+"\n", api.Head{Name: "@long", Type: '5'}))
	wantWrite(t, sym("a", xs(101)), extended("115 linkpath="+xs(101)+"\n", api.Head{Name: "a", Link: "@long", Type: '2'}))
	data := file(long(400), xs(513))
	wantWrite(t, data, padded(extended("410 path="+long(400)+"\n", api.Head{Name: "@long", Type: '0', Size: 513})+xs(513)))
}

// P17.3: texts of records of every size around that of a block: only the bytes that are missing to one are added.
func TestWriteSizes(t *testing.T) {
	for n := 101; n <= 400; n++ {
		x := hard(long(250), long(n))
		text := lines(records("linkpath", long(n), "path", long(250)))
		want := extended(text, api.Head{Name: "@long", Link: "@long", Type: '1'})
		wantWrite(t, x, want)
		wantRead(t, want, x, len(want))
		if len(want) != 1024+(len(text)+511)/512*512 {
			t.Errorf("%d bytes of records: %d bytes", len(text), len(want))
		}
	}
}

// P17.1 to P17.3: the errors are those of plan.Right, in its order.
func TestErrors(t *testing.T) {
	for _, c := range []struct {
		x    api.Entry
		want api.Errno
	}{
		{api.Entry{}, api.ErrSize},
		{dir(xs(401)), api.ErrSize},
		{dir("a\x00"), api.ErrForm},
		{dir("/a"), api.ErrPath},
		{dir(xs(200) + "//" + xs(100)), api.ErrPath},
		{withMeta(api.Meta{Mode: -1}), api.ErrRange},
		{withMeta(api.Meta{Mode: 4096}), api.ErrRange},
		{withMeta(api.Meta{UID: -1}), api.ErrRange},
		{withMeta(api.Meta{UID: 1<<50 + 1}), api.ErrRange},
		{withMeta(api.Meta{GID: -1}), api.ErrRange},
		{withMeta(api.Meta{GID: math.MaxInt}), api.ErrRange},
		{withMeta(api.Meta{User: xs(61)}), api.ErrSize},
		{withMeta(api.Meta{Group: xs(61)}), api.ErrSize},
		{withMeta(api.Meta{User: "a\x00"}), api.ErrForm},
		{withMeta(api.Meta{Group: "\x00"}), api.ErrForm},
		{withMeta(api.Meta{Second: 1<<40 + 1}), api.ErrRange},
		{withMeta(api.Meta{Second: math.MinInt}), api.ErrRange},
		{withMeta(api.Meta{Nano: 1000000000}), api.ErrRange},
		{withMeta(api.Meta{Nano: -1}), api.ErrRange},
		{api.Entry{Path: "a"}, api.ErrKind},
		{api.Entry{Path: "a", Kind: 5}, api.ErrKind},
		{api.Entry{Path: "a", Kind: -1}, api.ErrKind},
		{api.Entry{Path: "a", Kind: math.MinInt}, api.ErrKind},
		{api.Entry{Path: "a", Kind: math.MaxInt}, api.ErrKind},
		{api.Entry{Path: "a", Kind: api.Dir, Data: []byte("x")}, api.ErrForm},
		{api.Entry{Path: "a", Kind: api.Sym, Target: "b", Data: []byte("x")}, api.ErrForm},
		{api.Entry{Path: "a", Kind: api.File, Target: "b"}, api.ErrForm},
		{api.Entry{Path: "a", Kind: api.Dir, Target: "b"}, api.ErrForm},
		{sym("a", ""), api.ErrForm},
		{hard("a", ""), api.ErrForm},
		{file("a", xs(2001)), api.ErrSize},
		{sym("a", xs(401)), api.ErrSize},
		{hard("a", "../b"), api.ErrPath},
		{hard("a", xs(200)+"/"), api.ErrPath},
		{sym("a", "b\x00"), api.ErrForm},
		{sym("a", xs(399)+"\x00"), api.ErrForm},
	} {
		if right := plan.Right(c.x); right != c.want {
			t.Fatalf("Right of %+v: %d, want %d", c.x, right, c.want)
		}
		wantError(t, c.x, c.want)
		wantError(t, with(c.x, func(x *api.Entry) { x.Path = "" }), api.ErrSize)
		wantError(t, with(c.x, func(x *api.Entry) { x.Path = "a/../" + xs(200) }), api.ErrPath)
	}
	wantError(t, with(full(), func(x *api.Entry) { x.Meta.Nano, x.Kind = -1, 0 }), api.ErrRange)
	wantError(t, with(full(), func(x *api.Entry) { x.Kind, x.Data = 0, []byte("x") }), api.ErrKind)
	wantError(t, with(full(), func(x *api.Entry) { x.Target, x.Data = xs(401), []byte("x") }), api.ErrForm)
}

// samples are members of every kind, with and without records and data.
func samples() []api.Entry {
	l := []api.Entry{
		dir("a"), dir(long(155) + "/" + xs(100)), file("a", ""), file("a/b", "x"), file("a", xs(512)), file("\xff", "\x00\n\x00"), file("a", xs(2000)), sym("a", "/\xff/.."), sym("a", xs(400)),
		hard("a", "b"), hard(long(101), xs(101)), owned(dir("a")), owned(file("a", xs(600))), full(), with(full(), func(x *api.Entry) { x.Kind = api.Sym }), withMeta(api.Meta{Second: -1}),
		dir("@long"), file("@pax", "x"), sym("@long", "@long"), sym("@pax", "@pax"), file(xs(101), "9 a=b\n"), dir(xs(101) + "\n9 a=b\n"), dir("\n=" + xs(398)),
	}
	for _, x := range []api.Entry{file(long(400), ""), file(long(400), xs(512)), file(long(400), xs(2000))} {
		x.Meta = full().Meta
		l = append(l, x)
	}
	return l
}

// encoding of a member that is valid.
func encoding(x api.Entry) string {
	b, err := Write(x)
	if err != api.OK {
		panic("no member")
	}
	return string(b)
}

// P17.4: members and what is behind them.
func TestRead(t *testing.T) {
	for _, x := range samples() {
		s := encoding(x)
		for _, behind := range []string{"", "\x00", "x", put("", 512), put("", 1024), s, encoding(full()), xs(511), xs(3000)} {
			wantRead(t, s+behind, x, len(s))
		}
	}
}

// P17.4: there are too few bytes for the first head, its data, the second head, or the data of this one.
func TestReadShort(t *testing.T) {
	for _, x := range samples() {
		s := encoding(x)
		for n := range len(s) {
			wantReadError(t, fmt.Sprintf("%d bytes of %d", n, len(s)), s[:n], api.ErrShort)
		}
	}
	for n := range 512 {
		wantReadError(t, "bytes that are no head", xs(n), api.ErrShort)
		wantReadError(t, "records, and bytes that are no head", extended("6 a=b\n", api.Head{Type: '0'})[:1024]+xs(n), api.ErrShort)
	}
	// A size that is greater than any list of bytes.
	wantReadError(t, "a great size", block(api.Head{Name: "a", Type: '0', Size: 1<<33 - 1})+xs(3000), api.ErrShort)
	wantReadError(t, "a great size of records", block(api.Head{Name: "@pax", Type: 'x', Size: 1<<33 - 1})+xs(3000), api.ErrShort)
	wantReadError(t, "a great size behind records", extended("6 a=b\n", api.Head{Name: "a", Type: '0', Size: 1<<33 - 1})+xs(3000), api.ErrShort)
}

// P17.4: every byte of a head counts, that of the records and that of the member, whatever follows.
func TestReadSum(t *testing.T) {
	for _, x := range samples() {
		s := encoding(x)
		heads := []int{0}
		if l, _ := Records(x); len(l) > 0 {
			heads = append(heads, 512+(len(lines(l))+511)/512*512)
		}
		for _, start := range heads {
			for i := range 512 {
				b := []byte(s)
				b[start+i]++
				if i >= 148 && i < 156 && b[start+i]^1 == s[start+i] {
					b[start+i] = 'x'
				}
				wantReadError(t, fmt.Sprintf("%q with another byte %d", s, start+i), string(b), api.ErrSum)
			}
		}
	}
	wantReadError(t, "an end", put("", 1024), api.ErrSum)
	wantReadError(t, "no head", xs(512), api.ErrSum)
	wantReadError(t, "records and an end", extended("6 a=b\n", api.Head{Type: '0'})[:1024]+put("", 1024), api.ErrSum)
}

// edited is a block with other bytes at a place, and the sum that it should have then.
func edited(s string, at int, bytes string) string { return summed(s[:at] + bytes + s[at+len(bytes):]) }

// P17.4: heads with a right sum that are not of their form.
func TestReadHeads(t *testing.T) {
	plain := block(api.Head{Name: "a", Type: '0'})
	for _, c := range []struct {
		at    int
		bytes string
	}{{1, "\x00b"}, {100, "00000008"}, {107, "0"}, {124, "\x00"}, {135, " "}, {136, "x"}, {156, "9"}, {156, "\x00"}, {158, "x"}, {257, "U"}, {263, "1"}, {265, xs(32)}, {297, "\x00x"}, {329, "1"}, {335, "1"}, {343, "1"}, {346, "\x00x"}, {511, "x"}} {
		s := edited(plain, c.at, c.bytes)
		if _, err := head.Read(s); err != api.ErrForm {
			t.Fatalf("head.Read of %q: %d", s, err)
		}
		wantReadError(t, fmt.Sprintf("%q", s), s, api.ErrForm)
		wantReadError(t, fmt.Sprintf("records and %q", s), extended("111 path="+long(101)+"\n", api.Head{Type: '0'})[:1024]+s, api.ErrForm)
	}
}

// P17.4: padding that is not 0, of data and of records.
func TestReadPadding(t *testing.T) {
	for _, x := range []api.Entry{file("a", "x"), file("a", xs(511)), file("a", xs(2000)), full(), withMeta(api.Meta{Nano: 1})} {
		s := encoding(x)
		at, end := 512+len(x.Data), len(s)
		if l, _ := Records(x); len(l) > 0 {
			at, end = 512+len(lines(l)), len(s)-512
		}
		for i := at; i < end; i++ {
			b := []byte(s)
			b[i] = 1
			wantReadError(t, fmt.Sprintf("padding of 1 at %d", i), string(b), api.ErrForm)
		}
	}
	// The kind, and whether the Size fits to it, count after the bytes.
	s := padded(block(api.Head{Name: "a", Type: '5', Size: 1}) + "x")
	wantReadError(t, "a directory with data", s, api.ErrForm)
	wantReadError(t, "a directory with too little data", s[:1023], api.ErrShort)
}

// P17.4: records that are wrong by themselves, ahead of all that is wrong behind them.
func TestReadRecords(t *testing.T) {
	var many []api.Record
	for i := range 13 {
		many = append(many, api.Record{Key: fmt.Sprintf("a%02d", i)})
	}
	for _, c := range []struct {
		text string
		want api.Errno
	}{
		{"x", api.ErrForm},
		{"06 a=b\n", api.ErrForm},
		{"7 a=b\n", api.ErrShort},
		{"6 a=b\n9999 ", api.ErrShort},
		{"6 a=b\nx", api.ErrForm},
		{"5 ab\n", api.ErrForm},
		{"5 =b\n", api.ErrSize},
		{lines(records(xs(61), "")), api.ErrSize},
		{lines(records("a", xs(501))), api.ErrSize},
		{lines(records("a", "\x00")), api.ErrForm},
		{lines(many), api.ErrSize},
		{lines(records("uid", "2097152", "gid", "2097152")), api.ErrTwice},
		{lines(records("uid", "2097152", "uid", "2097152")), api.ErrTwice},
	} {
		if _, err := pax.Read(c.text); err != c.want {
			t.Fatalf("pax.Read of %q: %d", c.text, err)
		}
		s := extended(c.text, api.Head{Name: "a", Type: '5'})
		for _, behind := range []string{s, s[:len(s)-512], s[:len(s)-1], s[:len(s)-512] + xs(512), s[:len(s)-512] + block(api.Head{Type: '0', Size: 1})} {
			wantReadError(t, fmt.Sprintf("records %q", c.text), behind, c.want)
		}
	}
}

// P17.4: records that are right by themselves are ErrForm unless they are those of a member, after all that is wrong
// behind them.
func TestReadOtherRecords(t *testing.T) {
	a := api.Head{Name: "a", Type: '5'}
	far := api.Head{Name: "@long", Type: '5'}
	tie := api.Head{Name: "a", Type: '2', Link: "@long"}
	for _, c := range []struct {
		l []api.Record
		h api.Head
	}{
		{nil, a},
		{records("a", "b"), a},
		{records("atime", "1.5"), a},
		{records("path", long(101), "size", "5"), far},
		{records("gid", "2097151"), a},
		{records("gid", "02097152"), a},
		{records("gid", "+2097152"), a},
		{records("gid", "2097152 "), a},
		{records("gid", "10000000o"), a},
		{records("gid", ""), a},
		{records("gid", "-2097152"), a},
		{records("gid", "1125899906842625"), a},
		{records("gid", "99999999999999999999"), a},
		{records("uid", "2097151"), a},
		{records("uid", "0x200000"), a},
		{records("uid", "2_097_152"), a},
		{records("uid", "1125899906842625"), a},
		{records("uid", "99999999999999999999"), a},
		{records("uname", ""), a},
		{records("uname", xs(31)), a},
		{records("uname", xs(61)), a},
		{records("gname", xs(31)), a},
		{records("gname", xs(61)), a},
		{records("UID", "2097152"), a},
		{records("mtime", "5"), a},
		{records("mtime", "0"), a},
		{records("mtime", "8589934591"), a},
		{records("mtime", "8589934592.0"), a},
		{records("mtime", "0.5000000000"), a},
		{records("mtime", ".5"), a},
		{records("mtime", "-0"), a},
		{records("mtime", "x"), a},
		{records("mtime", ""), a},
		{records("mtime", "1099511627777"), a},
		{records("path", "a"), far},
		{records("path", long(100)), far},
		{records("path", "a/"+long(100)), far},
		{records("path", ""), far},
		{records("path", long(401)), far},
		{records("path", "/"+long(101)), far},
		{records("path", long(200)+"/../a"), far},
		{records("linkpath", "b"), tie},
		{records("linkpath", xs(100)), tie},
		{records("linkpath", xs(401)), tie},
		{records("linkpath", ""), tie},
		{records("linkpath", xs(101)), far},
		{records("linkpath", xs(101)), api.Head{Name: "a", Type: '0', Link: "@long"}},
		{records("linkpath", xs(101)+"/.."), api.Head{Name: "a", Type: '1', Link: "@long"}},
	} {
		s := extended(lines(c.l), c.h)
		what := fmt.Sprintf("records %q", c.l)
		wantReadError(t, what, s, api.ErrForm)
		at := len(s) - 512
		wantReadError(t, what+" and too little", s[:len(s)-1], api.ErrShort)
		wantReadError(t, what+" and no head", s[:at]+xs(512), api.ErrSum)
		wantReadError(t, what+" and too little data", s[:at]+block(api.Head{Name: "a", Type: '0', Size: 1}), api.ErrShort)
	}
}

// P17.4: a field of the member's head that is in a record must be empty there, and every other one what it is.
func TestReadFields(t *testing.T) {
	for bits := range 1 << 7 {
		_, l, h := subset(bits)
		for _, change := range []func(*api.Head){
			func(h *api.Head) { h.GID++ },
			func(h *api.Head) { h.Group += "x" },
			func(h *api.Head) { h.Link = "@pax" },
			func(h *api.Head) { h.Time++ },
			func(h *api.Head) { h.Name = "@Long" },
			func(h *api.Head) { h.Prefix = "x" },
			func(h *api.Head) { h.UID++ },
			func(h *api.Head) { h.User += "x" },
			func(h *api.Head) { h.Mode++ },
			func(h *api.Head) { h.Type = '5' },
			func(h *api.Head) { h.Type = '0' },
			func(h *api.Head) { h.Type = 'x' },
		} {
			h := h
			change(&h)
			s := extended(lines(l), h)
			wantByWords(t, s)
			if bits == 0 {
				s = block(h)
				wantByWords(t, s)
			}
		}
	}
}

// readByWords reads bytes by the words of P17.4; the member is found by its parts, and must be encoded as the bytes are.
func readByWords(s string) (api.Entry, int, api.Errno) {
	h, data, rest, err := partByWords(s)
	if err != api.OK {
		return api.Entry{}, 0, err
	}
	l := []api.Record{}
	if h.Type == 'x' {
		if l, err = pax.Read(data); err != api.OK {
			return api.Entry{}, 0, err
		}
		if h, data, rest, err = partByWords(rest); err != api.OK {
			return api.Entry{}, 0, err
		}
	}
	x := api.Entry{Path: h.Name, Target: h.Link, Data: []byte(data)}
	if h.Prefix != "" {
		x.Path = h.Prefix + "/" + h.Name
	}
	x.Kind = map[byte]int{'0': api.File, '1': api.Link, '2': api.Sym, '5': api.Dir}[h.Type]
	x.Meta = api.Meta{Mode: h.Mode, UID: h.UID, GID: h.GID, User: h.User, Group: h.Group, Second: h.Time}
	for _, r := range l {
		switch r.Key {
		case "gid":
			fmt.Sscan(r.Value, &x.Meta.GID)
		case "gname":
			x.Meta.Group = r.Value
		case "linkpath":
			x.Target = r.Value
		case "mtime":
			x.Meta.Second, x.Meta.Nano = timeByWords(r.Value)
		case "path":
			x.Path = r.Value
		case "uid":
			fmt.Sscan(r.Value, &x.Meta.UID)
		case "uname":
			x.Meta.User = r.Value
		}
	}
	if b, err := Write(x); err != api.OK || string(b)+rest != s {
		return api.Entry{}, 0, api.ErrForm
	}
	return x, len(s) - len(rest), api.OK
}

// timeByWords is the time of a decimal number: whole seconds below it, and what is missing to it.
func timeByWords(s string) (int, int) {
	whole, fraction, _ := strings.Cut(strings.TrimPrefix(s, "-"), ".")
	second, nano := 0, 0
	fmt.Sscan(whole, &second)
	fmt.Sscanf((fraction + "000000000")[:9], "%d", &nano)
	if strings.HasPrefix(s, "-") {
		second, nano = -second, -nano
	}
	if nano < 0 {
		second, nano = second-1, nano+1000000000
	}
	return second, nano
}

// partByWords is a head, the bytes behind it, and what follows their blocks.
func partByWords(s string) (api.Head, string, string, api.Errno) {
	if len(s) < 512 {
		return api.Head{}, "", "", api.ErrShort
	}
	h, err := head.Read(s[:512])
	if err != api.OK {
		return api.Head{}, "", "", err
	}
	s = s[512:]
	end := (h.Size + 511) / 512 * 512
	if len(s) < end {
		return api.Head{}, "", "", api.ErrShort
	}
	if strings.Trim(s[h.Size:end], "\x00") != "" {
		return api.Head{}, "", "", api.ErrForm
	}
	return h, s[:h.Size], s[end:], api.OK
}

func wantByWords(t *testing.T, s string) api.Errno {
	t.Helper()
	x, size, err := readByWords(s)
	if err == api.OK {
		wantRead(t, s, x, size)
	} else {
		wantReadError(t, fmt.Sprintf("%q", s), s, err)
	}
	return err
}

// P17.4: heads with a right sum, none of them that of a member.
func TestReadOtherHeads(t *testing.T) {
	good := api.Head{Name: "a", Type: '0'}
	for i, change := range []func(*api.Head){
		func(h *api.Head) { h.Name = "" },
		func(h *api.Head) { h.Name = "/a" },
		func(h *api.Head) { h.Name = "a/" },
		func(h *api.Head) { h.Name = "a/../b" },
		func(h *api.Head) { h.Name = "." },
		func(h *api.Head) { h.Prefix = "a" },
		func(h *api.Head) { h.Prefix, h.Name = "a", xs(98) },
		func(h *api.Head) { h.Prefix, h.Name = "a/b", xs(98) },
		func(h *api.Head) { h.Prefix, h.Name = "/b", xs(100) },
		func(h *api.Head) { h.Prefix, h.Name = "..", xs(100) },
		func(h *api.Head) { h.Prefix, h.Name = xs(155), "" },
		func(h *api.Head) { h.Mode = 4096 },
		func(h *api.Head) { h.Mode = 2097151 },
		func(h *api.Head) { h.Type, h.Link = '2', "" },
		func(h *api.Head) { h.Type, h.Link = '1', "" },
		func(h *api.Head) { h.Type, h.Link = '1', "/b" },
		func(h *api.Head) { h.Type, h.Link = '1', "b/.." },
		func(h *api.Head) { h.Link = "b" },
		func(h *api.Head) { h.Type, h.Link = '5', "b" },
		func(h *api.Head) { h.Type = 'x' },
		func(h *api.Head) { h.Type, h.Name = 'x', "@pax" },
	} {
		h := good
		change(&h)
		s := block(h) + block(good)
		wantReadError(t, fmt.Sprintf("head %d: %q", i, s), s, api.ErrForm)
		wantReadError(t, fmt.Sprintf("records and head %d: %q", i, s), extended("15 uid=2097152\n", h)+block(good), api.ErrForm)
	}
	for size, want := range map[int]api.Errno{1: api.ErrForm, 512: api.ErrForm, 2000: api.ErrForm} {
		for _, mark := range []byte("125") {
			h := api.Head{Name: "a", Type: mark, Size: size}
			if mark != '5' {
				h.Link = "b"
			}
			wantReadError(t, fmt.Sprintf("type %c and %d bytes", mark, size), padded(block(h)+xs(size)), want)
		}
	}
	wantReadError(t, "2001 bytes", padded(block(api.Head{Name: "a", Type: '0', Size: 2001})+xs(2001)), api.ErrForm)
	wantReadError(t, "100000 bytes", padded(block(api.Head{Name: "a", Type: '0', Size: 100000})+xs(100000)), api.ErrForm)
}

// P17.4: the head of records has nothing in it but its Name, its Type and its Size.
func TestReadRecordsHead(t *testing.T) {
	x := full()
	s := encoding(x)
	text := lines(fullRecords())
	good := api.Head{Name: "@pax", Type: 'x', Size: len(text)}
	if block(good) != s[:512] {
		t.Fatalf("head of records: %q", s[:512])
	}
	for i, change := range []func(*api.Head){
		func(h *api.Head) { h.Name = "" },
		func(h *api.Head) { h.Name = "@paX" },
		func(h *api.Head) { h.Name = "@paxx" },
		func(h *api.Head) { h.Name = "@long" },
		func(h *api.Head) { h.Prefix = "a" },
		func(h *api.Head) { h.Mode = 1 },
		func(h *api.Head) { h.UID = 1 },
		func(h *api.Head) { h.GID = 1 },
		func(h *api.Head) { h.Time = 1 },
		func(h *api.Head) { h.Link = "a" },
		func(h *api.Head) { h.User = "a" },
		func(h *api.Head) { h.Group = "a" },
	} {
		h := good
		change(&h)
		wantReadError(t, fmt.Sprintf("head of records %d", i), block(h)+s[512:], api.ErrForm)
	}
	wantReadError(t, "records behind records", s[:len(s)-512]+s, api.ErrForm)
	wantReadError(t, "the same records behind records", s[:len(s)-512]+s[:len(s)-512]+s[len(s)-512:], api.ErrForm)
	wantReadError(t, "records without a member", s[:len(s)-512], api.ErrShort)
	wantReadError(t, "records and an end", s[:len(s)-512]+put("", 1024), api.ErrSum)
}

// randomEntry is a member with fields around the limits of what has room in a head.
func randomEntry(random *rand.Rand) api.Entry {
	text := func(sizes ...int) string {
		b := make([]byte, sizes[random.Intn(len(sizes))])
		for i := range b {
			b[i] = byte(1 + random.Intn(255))
		}
		return string(b)
	}
	number := func(l ...int) int { return l[random.Intn(len(l))] }
	plain := strings.NewReplacer("/", "_", ".", "_")
	spread := func() string {
		s := plain.Replace(text(1, 5, 99, 100, 101, 102, 200, 256, 257, 300, 390))
		for range random.Intn(4) {
			s += "/" + plain.Replace(text(1, 5, 98, 99, 100, 101))
		}
		return strings.TrimRight(s[:min(len(s), 400)], "/")
	}
	x := api.Entry{Path: spread(), Kind: 1 + random.Intn(4)}
	switch x.Kind {
	case api.File:
		x.Data = []byte(text(0, 1, 511, 512, 513, 2000))
	case api.Sym:
		x.Target = text(1, 5, 99, 100, 101, 400)
	case api.Link:
		x.Target = spread()
	}
	x.Meta = api.Meta{
		Mode: random.Intn(4096), UID: number(0, 5, 2097151, 2097152, 1<<50), GID: number(0, 5, 2097151, 2097152, 1<<50), User: text(0, 5, 31, 32, 60), Group: text(0, 5, 31, 32, 60),
		Second: number(0, -1, 5, 1<<33-1, 1<<33, 1<<40, -1<<40, random.Intn(1<<34)-1<<33), Nano: number(0, 0, 0, 1, 999999999, random.Intn(1000000000)),
	}
	return x
}

// recordsByWords are the records of a member by the words of P17.1.
func recordsByWords(x api.Entry) []api.Record {
	all := map[string]string{}
	if x.Meta.GID > 2097151 {
		all["gid"] = fmt.Sprint(x.Meta.GID)
	}
	if x.Meta.UID > 2097151 {
		all["uid"] = fmt.Sprint(x.Meta.UID)
	}
	if len(x.Meta.Group) > 31 {
		all["gname"] = x.Meta.Group
	}
	if len(x.Meta.User) > 31 {
		all["uname"] = x.Meta.User
	}
	if len(x.Target) > 100 {
		all["linkpath"] = x.Target
	}
	if x.Meta.Nano != 0 || x.Meta.Second < 0 || x.Meta.Second > 8589934591 {
		whole, nano, sign := x.Meta.Second, x.Meta.Nano, ""
		if whole < 0 && nano > 0 {
			whole, nano = whole+1, 1000000000-nano
		}
		if x.Meta.Second < 0 {
			whole, sign = -whole, "-"
		}
		all["mtime"] = strings.TrimRight(strings.TrimRight(fmt.Sprintf("%s%d.%09d", sign, whole, nano), "0"), ".")
		if nano == 0 {
			all["mtime"] = fmt.Sprintf("%s%d", sign, whole)
		}
	}
	if !splits(x.Path) {
		all["path"] = x.Path
	}
	var l []api.Record
	for key, value := range all {
		l = append(l, api.Record{Key: key, Value: value})
	}
	slices.SortFunc(l, func(a, b api.Record) int { return strings.Compare(a.Key, b.Key) })
	return l
}

// P17.1 to P17.4: random members, and their encodings with a field or a byte changed.
func TestRandom(t *testing.T) {
	random := rand.New(rand.NewSource(17))
	counts := map[api.Errno]int{}
	for range 3000 {
		x := randomEntry(random)
		if plan.Right(x) != api.OK {
			t.Fatalf("no member: %+v", x)
		}
		wantRecords(t, x, recordsByWords(x))
		s := encoding(x)
		wantRead(t, s, x, len(s))
		for range 5 {
			counts[wantByWords(t, changed(random, s))]++
		}
	}
	for _, err := range []api.Errno{api.OK, api.ErrForm, api.ErrShort, api.ErrSum, api.ErrTwice, api.ErrSize} {
		if counts[err] < 20 {
			t.Errorf("error %d: only %d times", err, counts[err])
		}
	}
}

// changed is an encoding with something changed, and the sums that it should have then (mostly).
func changed(random *rand.Rand, s string) string {
	b := []byte(s)
	at := random.Intn(len(b))
	if random.Intn(2) == 0 {
		at = at / 512 * 512
		at += []int{0, 1, 5, 100, 106, 110, 118, 130, 134, 145, 156, 157, 160, 265, 297, 345}[random.Intn(16)]
	}
	b[at] = []byte("\x00\x01 /.0127x=\n\xff")[random.Intn(13)]
	s = string(b)
	if random.Intn(8) == 0 {
		return s[:random.Intn(len(s))]
	}
	if random.Intn(8) == 0 {
		s = twisted(random, s)
	}
	if len(s) >= 512 && random.Intn(8) != 0 {
		s = summed(s[:512]) + s[512:]
		if last := len(s)/512*512 - 512; random.Intn(2) == 0 && last > 0 {
			s = s[:last] + summed(s[last:last+512]) + s[last+512:]
		}
	}
	return s
}

// twisted is an encoding whose records are changed as a whole, if it has some.
func twisted(random *rand.Rand, s string) string {
	h, text, rest, err := partByWords(s)
	if l, wrong := pax.Read(text); err == api.OK && wrong == api.OK && h.Type == 'x' {
		switch random.Intn(3) {
		case 0:
			l = append(l, l[0])
		case 1:
			l = slices.Delete(l, 0, 1)
		case 2:
			l = append(l, make([]api.Record, 13)...)
		}
		h.Size = len(lines(l))
		return padded(block(h)+lines(l)) + rest
	}
	return s
}

// P17.4: what is behind a member is not looked at, so that many members are read in a time that grows with their number.
func TestReadLong(t *testing.T) {
	s := encoding(file("a", "x"))
	b := bytes.Repeat([]byte(s), 1<<14)
	begin := time.Now()
	for i := 0; i < len(b); i += len(s) {
		if _, size, err := Read(b[i:]); size != len(s) || err != api.OK {
			t.Fatalf("member at %d: %d, %d", i, size, err)
		}
	}
	records := extended(strings.Repeat("6 a=b\n", 1<<20), api.Head{Name: "a", Type: '5'})
	wantReadError(t, "many records", records, api.ErrSize)
	wantReadError(t, "a long record", extended("9 a="+xs(1<<23), api.Head{Name: "a", Type: '5'}), api.ErrForm)
	if _, err := Write(file("a", strings.Repeat("x", 1<<26))); err != api.ErrSize {
		t.Error("a long file is written")
	}
	if d := time.Since(begin); d > 20*time.Second {
		t.Errorf("it took %s", d)
	}
}

// P17.1 to P17.4: arguments are not changed, up to their capacity.
func TestArguments(t *testing.T) {
	for _, x := range append(samples(), api.Entry{Path: "a", Data: []byte("x")}, file("a", xs(2001))) {
		x.Data = append(append(make([]byte, 0, 5000), x.Data...), "behind"...)[:len(x.Data)]
		before := fmt.Sprintf("%q %+v", x.Data[:cap(x.Data)], x)
		Records(x)
		Head(x)
		Write(x)
		if fmt.Sprintf("%q %+v", x.Data[:cap(x.Data)], x) != before {
			t.Errorf("an argument was changed: %+v", x)
		}
		b, _ := Write(x)
		for _, s := range [][]byte{b, b[:len(b)/2], append(slices.Clone(b), b...)} {
			s = append(append(make([]byte, 0, 9000), s...), "behind"...)[:len(s)]
			before := string(s[:cap(s)])
			Read(s)
			if string(s[:cap(s)]) != before {
				t.Errorf("an argument was changed: %q", s)
			}
		}
	}
}

// P17.1 to P17.4: results are new memory.
func TestMemory(t *testing.T) {
	for _, x := range samples() {
		one, _ := Write(x)
		other, _ := Write(x)
		want := string(one)
		for _, l := range [][]byte{other, x.Data} {
			for i := range l[:cap(l)] {
				l[:cap(l)][i] = '!'
			}
		}
		if string(one) != want {
			t.Errorf("Write shares memory with another result, or with its argument")
		}
		first, _, _ := Read(one)
		second, _, _ := Read(one)
		want = string(first.Data)
		for _, l := range [][]byte{second.Data, one} {
			for i := range l[:cap(l)] {
				l[:cap(l)][i] = '?'
			}
		}
		if string(first.Data) != want {
			t.Errorf("Read shares memory with another result, or with its argument")
		}
	}
	one, _ := Records(full())
	other, _ := Records(full())
	for i := range other[:cap(other)] {
		other[:cap(other)][i] = api.Record{}
	}
	if !reflect.DeepEqual(one, fullRecords()) {
		t.Error("Records shares memory with another result")
	}
}

// P17.1, P17.2 and P17.4: strings are copied, so that no result keeps a longer string in memory of which one is a part.
func TestMemoryOfStrings(t *testing.T) {
	seen := map[*byte]bool{}
	wantNew := func(strs ...string) {
		t.Helper()
		for _, s := range strs {
			if s == "" || s == "@long" {
				continue
			}
			if seen[unsafe.StringData(s)] {
				t.Errorf("the string %q is that of an argument or another result", s)
			}
			seen[unsafe.StringData(s)] = true
		}
	}
	split := with(owned(sym("a/"+xs(100), "t")), func(x *api.Entry) { x.Meta.User = strings.Clone("u") })
	for _, x := range []api.Entry{full(), owned(sym("a", "b")), split} {
		for _, s := range []string{x.Path, x.Target, x.Meta.User, x.Meta.Group} {
			seen[unsafe.StringData(s)] = true
		}
		for range 2 {
			h, _ := Head(x)
			wantNew(h.Name, h.Prefix, h.Link, h.User, h.Group)
			l, _ := Records(x)
			for _, r := range l {
				wantNew(r.Value)
			}
			b, _ := Write(x)
			y, _, _ := Read(b)
			wantNew(y.Path, y.Target, y.Meta.User, y.Meta.Group)
		}
	}
}
