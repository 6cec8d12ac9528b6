package path

import (
	"slices"
	"strings"
	"testing"

	"creel/api"
)

// short are all strings of at most n bytes of an alphabet.
func short(alphabet string, n int) []string {
	all := []string{""}
	begin := 0
	for range n {
		end := len(all)
		for _, s := range all[begin:end] {
			for i := range len(alphabet) {
				all = append(all, s+alphabet[i:i+1])
			}
		}
		begin = end
	}
	return all
}

func wantCheck(t *testing.T, s string, want api.Errno) {
	t.Helper()
	if err := Check(s); err != want {
		t.Errorf("Check(%q) = %d, want %d", s, err, want)
	}
}

// P3.1
func TestCheck(t *testing.T) {
	for _, s := range []string{
		"a", "a/b", "a/b/c", "a-b", "a b", "...", ".../...", ".a", "a.", "..a", "a..", "a/..b/c", ". ", " ", "~", "-", "*",
		`\`, `..\a`, "é/ü", "\xff/\x01", "a\nb", strings.Repeat("x", 400), "a" + strings.Repeat("/a", 199) + "b",
		strings.Repeat("é", 200),
	} {
		wantCheck(t, s, api.OK)
	}
}

// P3.1: the size counts first, in bytes, whatever they are.
func TestCheckSize(t *testing.T) {
	for _, s := range []string{
		"", strings.Repeat("x", 401), strings.Repeat("\x00", 401), strings.Repeat("/", 401), strings.Repeat("x", 5000),
		strings.Repeat("é", 201), "../" + strings.Repeat("x", 398), "a" + strings.Repeat("/a", 200),
	} {
		wantCheck(t, s, api.ErrSize)
	}
	for n := 1; n <= 410; n++ {
		want := api.OK
		if n > api.MaxPath {
			want = api.ErrSize
		}
		wantCheck(t, strings.Repeat("x", n), want)
	}
}

// P3.1: a zero byte counts before the parts.
func TestCheckForm(t *testing.T) {
	for _, s := range []string{
		"\x00", "a\x00", "\x00a", "a\x00b", "a/\x00", "a/b\x00/c", "/\x00", "\x00/", "a//b\x00", "../\x00", "\x00/..", "./a\x00b",
		strings.Repeat("x", 399) + "\x00", "\x00" + strings.Repeat("/", 399),
	} {
		wantCheck(t, s, api.ErrForm)
	}
}

// P3.1: every place of a part that may not be.
func TestCheckPath(t *testing.T) {
	for _, part := range []string{"", ".", ".."} {
		if part != "" {
			wantCheck(t, part, api.ErrPath)
		}
		for _, s := range []string{
			part + "/", "/" + part, part + "/a", "a/" + part, "a/" + part + "/b", part + "/a/b", "a/b/" + part, part + "/" + part,
		} {
			wantCheck(t, s, api.ErrPath)
		}
	}
	wantCheck(t, strings.Repeat("x", 399)+"/", api.ErrPath)
	wantCheck(t, "/"+strings.Repeat("x", 399), api.ErrPath)
	wantCheck(t, strings.Repeat("/", 400), api.ErrPath)
	wantCheck(t, strings.Repeat("x", 398)+"/.", api.ErrPath)
}

// P3.1: all strings of few bytes, by the words of the promise.
func TestCheckShort(t *testing.T) {
	for _, s := range short("/.a\x00", 5) {
		want := api.OK
		if s == "" {
			want = api.ErrSize
		} else if strings.Contains(s, "\x00") {
			want = api.ErrForm
		} else if in := "/" + s + "/"; strings.Contains(in, "//") || strings.Contains(in, "/./") || strings.Contains(in, "/../") {
			want = api.ErrPath
		}
		wantCheck(t, s, want)
	}
}

// P3.2
func TestParts(t *testing.T) {
	for _, c := range []struct {
		s    string
		want []string
	}{
		{"", nil},
		{"a", []string{"a"}},
		{"a/b", []string{"a", "b"}},
		{"a/b/c", []string{"a", "b", "c"}},
		{"abc/de", []string{"abc", "de"}},
		{"/", []string{"", ""}},
		{"//", []string{"", "", ""}},
		{"/a", []string{"", "a"}},
		{"a/", []string{"a", ""}},
		{"a//b", []string{"a", "", "b"}},
		{"../.", []string{"..", "."}},
		{"a\x00/\x00", []string{"a\x00", "\x00"}},
		{"é/\xff", []string{"é", "\xff"}},
		{`a\b`, []string{`a\b`}},
		{strings.Repeat("x", 1000) + "/y", []string{strings.Repeat("x", 1000), "y"}},
	} {
		if got := Parts(c.s); !slices.Equal(got, c.want) {
			t.Errorf("Parts(%q) = %q, want %q", c.s, got, c.want)
		}
	}
}

// P3.2: the parts, with slashes between them, are the string again, and there is no slash in a part.
func TestPartsShort(t *testing.T) {
	for _, s := range short("/.ab", 6) {
		parts := Parts(s)
		if strings.Join(parts, "/") != s || (len(parts) == 0) != (s == "") {
			t.Errorf("Parts(%q) = %q", s, parts)
		}
		for _, part := range parts {
			if strings.Contains(part, "/") {
				t.Errorf("Parts(%q) has the part %q", s, part)
			}
		}
	}
}

// P3.2: the list is new memory in each call.
func TestPartsNewMemory(t *testing.T) {
	const s = "a/b/c"
	parts := Parts(s)
	for i := range parts[:cap(parts)] {
		parts[:cap(parts)][i] = "other"
	}
	if again := Parts(s); !slices.Equal(again, []string{"a", "b", "c"}) {
		t.Errorf("Parts(%q) = %q after the first list was changed", s, again)
	}
}

// P3.2
func TestUpBase(t *testing.T) {
	for _, c := range []struct{ s, up, base string }{
		{"", "", ""},
		{"a", "", "a"},
		{"abc", "", "abc"},
		{"a/b", "a", "b"},
		{"a/b/c", "a/b", "c"},
		{"ab/cd", "ab", "cd"},
		{"/", "", ""},
		{"/a", "", "a"},
		{"a/", "a", ""},
		{"//", "/", ""},
		{"a//", "a/", ""},
		{"a//b", "a/", "b"},
		{"..", "", ".."},
		{"../.", "..", "."},
		{"a\x00/\x00b", "a\x00", "\x00b"},
		{"é/\xff", "é", "\xff"},
		{strings.Repeat("x/", 1000) + "y", strings.Repeat("x/", 999) + "x", "y"},
	} {
		if up := Up(c.s); up != c.up {
			t.Errorf("Up(%q) = %q, want %q", c.s, up, c.up)
		}
		if base := Base(c.s); base != c.base {
			t.Errorf("Base(%q) = %q, want %q", c.s, base, c.base)
		}
	}
}

// P3.2: Base is the last one of Parts, and Up all ahead of it.
func TestUpBaseShort(t *testing.T) {
	for _, s := range short("/.ab", 6)[1:] {
		parts := Parts(s)
		last := len(parts) - 1
		if up := Up(s); up != strings.Join(parts[:last], "/") {
			t.Errorf("Up(%q) = %q", s, up)
		}
		if base := Base(s); base != parts[last] {
			t.Errorf("Base(%q) = %q", s, base)
		}
	}
}

// P3.3
func TestIn(t *testing.T) {
	for _, c := range []struct {
		s, dir string
		want   bool
	}{
		{"a/b", "a", true},
		{"a/b/c", "a", true},
		{"a/b/c", "a/b", true},
		{"a/", "a", true},
		{"a//", "a", true},
		{"a//", "a/", true},
		{"//", "/", true},
		{"a\x00/b", "a\x00", true},
		{"a", "a", false},
		{"ab", "a", false},
		{"a-b/c", "a", false},
		{"ab/c", "a", false},
		{"a", "a/b", false},
		{"a/b", "a/b", false},
		{"a/b", "b", false},
		{"b/a/c", "a", false},
		{"a/b", "a/", false},
		{"/", "/", false},
		{"A/b", "a", false},
		{"a\x00b", "a", false},
		{"", "a", false},
		{"", "/", false},
	} {
		if got := In(c.s, c.dir); got != c.want {
			t.Errorf("In(%q, %q) = %t", c.s, c.dir, got)
		}
	}
}

// P3.3: all strings but the empty one are in the empty one.
func TestInEmpty(t *testing.T) {
	if In("", "") {
		t.Error("the empty string is in the empty string")
	}
	for _, s := range []string{"a", "a/b", "/", "/a", "a/", ".", "..", "\x00", strings.Repeat("x", 1000)} {
		if !In(s, "") {
			t.Errorf("In(%q, \"\") = false", s)
		}
	}
}

// P3.3: all pairs of strings of few bytes, by the words of the promise.
func TestInShort(t *testing.T) {
	all := short("/.a", 4)
	for _, s := range all {
		for _, dir := range all {
			want := strings.HasPrefix(s, dir+"/")
			if dir == "" {
				want = s != ""
			}
			if got := In(s, dir); got != want {
				t.Errorf("In(%q, %q) = %t", s, dir, got)
			}
		}
	}
}

// wantOrder compares both ways.
func wantOrder(t *testing.T, a, b string, want int) {
	t.Helper()
	if got := Compare(a, b); got != want {
		t.Errorf("Compare(%q, %q) = %d, want %d", a, b, got, want)
	}
	if got := Compare(b, a); got != -want {
		t.Errorf("Compare(%q, %q) = %d, want %d", b, a, got, -want)
	}
}

// P3.4
func TestCompare(t *testing.T) {
	for _, c := range []struct {
		a, b string
		want int
	}{
		{"a/b", "a-b", -1},
		{"a/b", "a!", -1},
		{"a/b", "a\x00", -1},
		{"a/b", "a b", -1},
		{"a/z", "a.b/a", -1},
		{"a", "a/b", -1},
		{"a", "ab", -1},
		{"a", "b", -1},
		{"a/b", "b", -1},
		{"a/b", "a/c", -1},
		{"a/b/z", "a/c/a", -1},
		{"a/b/c", "a/b-", -1},
		{"a/c", "ab/a", -1},
		{"B", "a", -1},
		{"a", "\xff", -1},
		{"\x7f", "\x80", -1},
		{"10", "9", -1},
		{"a", "b/a", -1},
		{"a/b/c/d", "b", -1},
		{"", "a", -1},
		{"", "/", -1},
		{"", "\x00", -1},
		{"/", "//", -1},
		{"/", "\x00", -1},
		{"/a", "a", -1},
		{"/\xff", "\x00", -1},
		{"a", "a/", -1},
		{"a/", "a//", -1},
		{"a/", "a/b", -1},
		{"a//z", "a/b", -1},
		{"a/b/c", "a/b/c/d", -1},
		{"é", "é/a", -1},
	} {
		wantOrder(t, c.a, c.b, c.want)
	}
}

// P3.4
func TestCompareEqual(t *testing.T) {
	for _, s := range []string{"", "a", "a/b", "a/b/c", "/", "a//b", "..", "\x00", "\xff/é", strings.Repeat("x/", 1000)} {
		wantOrder(t, s, strings.Clone(s), 0)
	}
}

// P3.4: every byte that is no slash continues a part, and is greater than a slash; they are in the order of bytes.
func TestCompareEveryByte(t *testing.T) {
	before := "a/b"
	for b := range 256 {
		if b == '/' {
			continue
		}
		s := "a" + string([]byte{byte(b)})
		wantOrder(t, before, s, -1)
		wantOrder(t, "a", s, -1)
		wantOrder(t, "a/\xff", s, -1)
		before = s
	}
}

// P3.4: all pairs of strings of few bytes are in the order of their lists of parts.
func TestCompareShort(t *testing.T) {
	all := short("/-a", 5)
	for _, a := range all {
		for _, b := range all {
			if got, want := Compare(a, b), slices.Compare(Parts(a), Parts(b)); got != want {
				t.Errorf("Compare(%q, %q) = %d, want %d", a, b, got, want)
			}
		}
	}
}
