package cut

import (
	"strings"
	"testing"

	"creel/api"
)

func xs(n int) string { return strings.Repeat("x", n) }

// withSlashes is a string of n bytes with slashes at these indices.
func withSlashes(n int, at ...int) string {
	b := []byte(xs(n))
	for _, i := range at {
		b[i] = '/'
	}
	return string(b)
}

func wantTwo(t *testing.T, s, prefix, name string, want api.Errno) {
	t.Helper()
	p, n, err := Two(s)
	if p != prefix || n != name || err != want {
		t.Errorf("Two(%q) = %q, %q, %d, want %q, %q, %d", s, p, n, err, prefix, name, want)
	}
}

// wantTwoAt wants a split at the slash of this index.
func wantTwoAt(t *testing.T, s string, at int) {
	t.Helper()
	wantTwo(t, s, s[:at], s[at+1:], api.OK)
}

func wantOne(t *testing.T, p, n, path string, want api.Errno) {
	t.Helper()
	s, err := One(p, n)
	if s != path || err != want {
		t.Errorf("One(%q, %q) = %q, %d, want %q, %d", p, n, s, err, path, want)
	}
}

// P4.1: at most 100 bytes are not split, whatever they are.
func TestTwoShort(t *testing.T) {
	for _, s := range []string{
		"a", "a/b", "/", "//", "a/", "/a", "..", "a//b", "a/../b", "\xff", "é/ü",
		xs(99), xs(100), withSlashes(100, 50), withSlashes(100, 0, 99), strings.Repeat("/", 100), strings.Repeat("é", 50),
	} {
		wantTwo(t, s, "", s, api.OK)
	}
}

// P4.1: the document's example, and others whose slashes all fit.
func TestTwoLong(t *testing.T) {
	wantTwo(t, withSlashes(120, 30), xs(30), xs(89), api.OK)
	wantTwo(t, xs(60)+"/"+xs(60), xs(60), xs(60), api.OK)
	wantTwo(t, xs(155)+"/"+xs(100), xs(155), xs(100), api.OK)
	wantTwo(t, xs(1)+"/"+xs(99), "x", xs(99), api.OK)
	wantTwo(t, xs(1)+"/"+xs(100), "x", xs(100), api.OK)
	wantTwo(t, xs(99)+"/x", xs(99), "x", api.OK)
	wantTwo(t, xs(155)+"/x", xs(155), "x", api.OK)
	wantTwo(t, strings.Repeat("é", 77)+"/"+strings.Repeat("é", 50), strings.Repeat("é", 77), strings.Repeat("é", 50), api.OK)
}

// P4.1: the first slash that fits, not the first one, and not the last one.
func TestTwoFirst(t *testing.T) {
	wantTwoAt(t, withSlashes(120, 30, 60, 90), 30)
	wantTwoAt(t, withSlashes(120, 5, 18, 60, 90), 60)
	wantTwoAt(t, withSlashes(120, 5, 18, 19, 20), 19)
	wantTwoAt(t, withSlashes(120, 0, 30), 30)
	wantTwoAt(t, withSlashes(120, 0, 118, 119), 118)
	wantTwoAt(t, withSlashes(120, 118, 119), 118)
	wantTwoAt(t, withSlashes(101, 0, 1, 2), 1)
	wantTwoAt(t, withSlashes(256, 100, 155, 200), 155)
	wantTwoAt(t, withSlashes(200, 10, 150, 155, 156, 199), 150)
}

// P4.1: a path need not be valid: its slashes may stand beside others, and at the ends of a part.
func TestTwoInvalidPath(t *testing.T) {
	wantTwoAt(t, strings.Repeat("/", 101), 1)
	wantTwoAt(t, strings.Repeat("/", 256), 155)
	wantTwoAt(t, withSlashes(120, 0, 1, 50, 51, 119), 50)
	wantTwoAt(t, "../"+xs(100), 2)
	wantTwoAt(t, xs(60)+"/../"+xs(60), 60)
	wantTwoAt(t, strings.Repeat("\xff", 100)+"/\xfe", 100)
}

// P4.1: no string, or a zero byte, counts first, at every size.
func TestTwoForm(t *testing.T) {
	for _, s := range []string{
		"", "\x00", "a\x00", "\x00a", "a/\x00", xs(99) + "\x00", xs(100) + "\x00", "\x00" + xs(100), xs(500) + "\x00",
		xs(60) + "/" + xs(30) + "\x00" + xs(30), "\x00" + xs(60) + "/" + xs(60), xs(60) + "\x00/" + xs(60), strings.Repeat("\x00", 300),
	} {
		wantTwo(t, s, "", "", api.ErrForm)
	}
}

// P4.1: no slash of a long path leaves two parts that fit.
func TestTwoSize(t *testing.T) {
	for _, s := range []string{
		xs(101), xs(400), withSlashes(101, 0), withSlashes(101, 100), withSlashes(101, 0, 100), withSlashes(102, 0),
		xs(156) + "/a", "a/" + xs(101), xs(155) + "/" + xs(101), xs(156) + "/" + xs(100), withSlashes(300, 155, 199),
		strings.Repeat("/", 257), strings.Repeat("a/", 200), xs(5000), strings.Repeat("é", 51),
	} {
		wantTwo(t, s, "", "", api.ErrSize)
	}
}

// twoByWords is Two of a string without a zero byte, as the promise has it.
func twoByWords(s string) (string, string, api.Errno) {
	if len(s) <= 100 {
		return "", s, api.OK
	}
	for i := range len(s) {
		prefix, name := s[:i], s[i+1:]
		if s[i] == '/' && len(name) >= 1 && len(name) <= 100 && len(prefix) >= 1 && len(prefix) <= 155 {
			return prefix, name, api.OK
		}
	}
	return "", "", api.ErrSize
}

// P4.1: all places of one slash, and of another one a little later, at sizes around all bounds.
func TestTwoEverySlash(t *testing.T) {
	for n := 95; n <= 265; n++ {
		for i := range n {
			for _, gap := range []int{0, 1, 2, 50, 101} {
				s := withSlashes(n, i, min(i+gap, n-1))
				prefix, name, want := twoByWords(s)
				wantTwo(t, s, prefix, name, want)
			}
		}
	}
}

// P4.2
func TestOne(t *testing.T) {
	for _, c := range []struct{ p, n string }{
		{"", "a"}, {"", "a/b"}, {"", "/"}, {"", "//a/"}, {"", xs(100)}, {"", withSlashes(100, 0, 50, 99)}, {"", "\xff"},
	} {
		wantOne(t, c.p, c.n, c.n, api.OK)
	}
	for _, c := range []struct{ p, n string }{
		{xs(30), xs(89)}, {xs(60), xs(60)}, {xs(155), xs(100)}, {xs(155), "x"}, {"x", xs(99)}, {"x", xs(100)}, {xs(99), "x"},
		{xs(60), withSlashes(60, 0, 30, 59)}, {withSlashes(60, 0, 5), xs(90)}, {withSlashes(60, 5), xs(95)}, {"/", xs(100)}, {"/", xs(99)},
		{withSlashes(155, 54, 153), xs(99)},
		{xs(100), "/"}, {"..", "../" + xs(96)}, {strings.Repeat("/", 2), xs(100)}, {strings.Repeat("\xff", 99), "\xfe"},
	} {
		wantOne(t, c.p, c.n, c.p+"/"+c.n, api.OK)
	}
}

// P4.2: the sizes count first, in bytes, whatever the parts are.
func TestOneSize(t *testing.T) {
	for _, c := range []struct{ p, n string }{
		{"", ""}, {"a", ""}, {xs(120), ""}, {"", xs(101)}, {xs(60), xs(101)}, {xs(156), "a"}, {xs(156), xs(100)}, {xs(156), ""},
		{xs(156), xs(101)}, {"\x00", ""}, {"", strings.Repeat("\x00", 101)}, {strings.Repeat("\x00", 156), "\x00"}, {xs(5000), "a"},
		{"", xs(5000)}, {strings.Repeat("é", 78), "a"}, {"", strings.Repeat("é", 51)}, {strings.Repeat("/", 156), "a"},
	} {
		wantOne(t, c.p, c.n, "", api.ErrSize)
	}
}

// P4.2: a path of at most 100 bytes has no prefix, an earlier slash may fit, and no path has a zero byte.
func TestOneForm(t *testing.T) {
	for _, c := range []struct{ p, n string }{
		{"a", "b"}, {"a", xs(98)}, {xs(98), "b"}, {xs(50), xs(49)}, {"/", "/"}, {"a/b", "c"},
		{withSlashes(60, 30), xs(60)}, {withSlashes(60, 59), xs(60)}, {withSlashes(155, 100), "x"}, {withSlashes(155, 153, 154), xs(99)},
		{"a/", xs(98)}, {strings.Repeat("/", 155), xs(99)},
		{"", "\x00"}, {"", "a\x00b"}, {"", xs(99) + "\x00"}, {"a", "\x00"}, {"\x00", "a"}, {xs(60), xs(60) + "\x00"},
		{xs(60) + "\x00", xs(60)},
	} {
		wantOne(t, c.p, c.n, "", api.ErrForm)
	}
}

// P4.2: One is the inverse of Two, at all sizes of both parts and with a slash at every bound of the prefix.
func TestOneEverySize(t *testing.T) {
	for p := 0; p <= 157; p++ {
		for n := 0; n <= 102; n++ {
			wantOneByWords(t, xs(p), xs(n))
			for _, at := range []int{0, 1, p - 101 + n, p - 100 + n, p - 99 + n, p - 1} {
				if at >= 0 && at < p {
					wantOneByWords(t, withSlashes(p, at), xs(n))
				}
			}
		}
	}
}

// wantOneByWords wants the one of the two paths that the parts may have come from.
func wantOneByWords(t *testing.T, p, n string) {
	t.Helper()
	if len(n) < 1 || len(n) > 100 || len(p) > 155 {
		wantOne(t, p, n, "", api.ErrSize)
		return
	}
	for _, s := range []string{n, p + n, p + "/" + n} {
		if prefix, name, err := twoByWords(s); err == api.OK && prefix == p && name == n {
			wantOne(t, p, n, s, api.OK)
			return
		}
	}
	wantOne(t, p, n, "", api.ErrForm)
}
