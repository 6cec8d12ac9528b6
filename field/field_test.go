package field

import (
	"math"
	"strings"
	"testing"

	"creel/api"
)

// wrongWidths are those just outside the range 1 to Block, and far outside it.
var wrongWidths = []int{math.MinInt, -512, -2, -1, 0, 513, 514, 1024, 1<<32 + 1, math.MaxInt}

// zeros are n zero bytes.
func zeros(n int) string { return strings.Repeat("\x00", n) }

func wantWrite(t *testing.T, s string, width int, whole bool, want string, wantErr api.Errno) {
	t.Helper()
	if got, err := Write(s, width, whole); got != want || err != wantErr {
		t.Errorf("Write(%q, %d, %t) = %q, %d, want %q, %d", s, width, whole, got, err, want, wantErr)
	}
}

func wantRead(t *testing.T, s string, whole bool, want string, wantErr api.Errno) {
	t.Helper()
	if got, err := Read(s, whole); got != want || err != wantErr {
		t.Errorf("Read(%q, %t) = %q, %d, want %q, %d", s, whole, got, err, want, wantErr)
	}
}

// P2.1: a text with room left is the same field, whether it may be whole or not.
func TestWrite(t *testing.T) {
	for _, c := range []struct {
		s     string
		width int
		want  string
	}{
		{"", 1, "\x00"},
		{"", 2, "\x00\x00"},
		{"", 512, zeros(512)},
		{"a", 2, "a\x00"},
		{"ab", 4, "ab\x00\x00"},
		{"abc", 4, "abc\x00"},
		{"a b/0", 8, "a b/0\x00\x00\x00"},
		{"é\xff\x01\n", 6, "é\xff\x01\n\x00"},
		{strings.Repeat("x", 511), 512, strings.Repeat("x", 511) + "\x00"},
	} {
		wantWrite(t, c.s, c.width, false, c.want, api.OK)
		wantWrite(t, c.s, c.width, true, c.want, api.OK)
	}
}

// P2.1: a text that fills its field completely.
func TestWriteWhole(t *testing.T) {
	for _, s := range []string{
		"a", "ab", "abcd", "é", "\xff", strings.Repeat("x", 100), strings.Repeat("x", 511), strings.Repeat("x", 512),
	} {
		wantWrite(t, s, len(s), true, s, api.OK)
		wantWrite(t, s, len(s), false, "", api.ErrSize)
	}
}

// P2.1: the width counts first, whatever the text is.
func TestWriteWrongWidth(t *testing.T) {
	for _, width := range wrongWidths {
		for _, s := range []string{"", "a", "\x00", strings.Repeat("x", 512), strings.Repeat("\x00", 2000)} {
			wantWrite(t, s, width, false, "", api.ErrRange)
			wantWrite(t, s, width, true, "", api.ErrRange)
		}
	}
}

// P2.1: the length counts before the bytes, and is counted in bytes.
func TestWriteTooLong(t *testing.T) {
	for _, c := range []struct {
		s     string
		width int
	}{
		{"ab", 1}, {"abc", 2}, {"abcde", 4}, {"é", 1}, {"ééé", 5}, {"a\x00", 1}, {"\x00\x00", 1}, {"ab\x00", 2},
		{strings.Repeat("x", 513), 512}, {zeros(513), 512}, {strings.Repeat("x", 5000), 512},
	} {
		wantWrite(t, c.s, c.width, false, "", api.ErrSize)
		wantWrite(t, c.s, c.width, true, "", api.ErrSize)
	}
	wantWrite(t, "\x00", 1, false, "", api.ErrSize)
	wantWrite(t, "ab\x00", 3, false, "", api.ErrSize)
}

// P2.1: a zero byte at every place of the text.
func TestWriteZeroByte(t *testing.T) {
	for _, s := range []string{
		"\x00", "a\x00", "\x00a", "a\x00b", "ab\x00", "\x00\x00", strings.Repeat("x", 510) + "\x00",
	} {
		wantWrite(t, s, len(s), true, "", api.ErrForm)
		wantWrite(t, s, len(s)+1, true, "", api.ErrForm)
		wantWrite(t, s, len(s)+1, false, "", api.ErrForm)
	}
	wantWrite(t, strings.Repeat("x", 511)+"\x00", 512, true, "", api.ErrForm)
}

// P2.1: any other byte than 0 may be in a text.
func TestWriteEveryByte(t *testing.T) {
	for b := 1; b < 256; b++ {
		s := string([]byte{'a', byte(b)})
		wantWrite(t, s, 2, true, s, api.OK)
		wantWrite(t, s, 3, false, s+"\x00", api.OK)
	}
}

// P2.2: a field with a zero byte is read alike, whether it may be whole or not.
func TestRead(t *testing.T) {
	for s, want := range map[string]string{
		"\x00":                              "",
		"\x00\x00\x00":                      "",
		"a\x00":                             "a",
		"ab\x00\x00":                        "ab",
		"abc\x00":                           "abc",
		"a b/0\x00":                         "a b/0",
		"é\xff\x01\n\x00":                   "é\xff\x01\n",
		zeros(512):                          "",
		strings.Repeat("x", 511) + "\x00":   strings.Repeat("x", 511),
		strings.Repeat("x", 100) + zeros(9): strings.Repeat("x", 100),
	} {
		wantRead(t, s, false, want, api.OK)
		wantRead(t, s, true, want, api.OK)
	}
}

// P2.2: a field without a zero byte.
func TestReadWhole(t *testing.T) {
	for _, s := range []string{
		"a", "ab", "0", "é", "\xff\x01", strings.Repeat("x", 511), strings.Repeat("x", 512),
	} {
		wantRead(t, s, true, s, api.OK)
		wantRead(t, s, false, "", api.ErrForm)
	}
}

// P2.2: the length counts first, whatever the bytes are.
func TestReadWrongLength(t *testing.T) {
	for _, s := range []string{
		"", zeros(513), strings.Repeat("x", 513), "a\x00b" + zeros(510), strings.Repeat("é", 257), strings.Repeat("x", 5000),
	} {
		wantRead(t, s, false, "", api.ErrRange)
		wantRead(t, s, true, "", api.ErrRange)
	}
}

// P2.2: a byte other than 0 at every place after the first zero byte.
func TestReadWrongForm(t *testing.T) {
	for _, s := range []string{
		"\x00a", "a\x00b", "ab\x00\x00c", "a\x00b\x00", "\x00\x01", "\x00\xff\x00", "\x00\x000", "\x00 ",
	} {
		wantRead(t, s, false, "", api.ErrForm)
		wantRead(t, s, true, "", api.ErrForm)
	}
	for place := 1; place < api.Block; place++ {
		s := []byte(zeros(api.Block))
		s[place] = 1
		wantRead(t, string(s), false, "", api.ErrForm)
		wantRead(t, string(s), true, "", api.ErrForm)
	}
}

// P2.1 and P2.2: what is written is read again, at every width.
func TestReadWhatIsWritten(t *testing.T) {
	for width := 1; width <= api.Block; width++ {
		for _, size := range []int{0, width / 2, width - 1} {
			wantSameText(t, strings.Repeat("x", size), width, false)
			wantSameText(t, strings.Repeat("x", size), width, true)
		}
		wantSameText(t, strings.Repeat("x", width), width, true)
	}
}

func wantSameText(t *testing.T, s string, width int, whole bool) {
	t.Helper()
	field, err := Write(s, width, whole)
	if err != api.OK || field != s+zeros(width-len(s)) {
		t.Errorf("Write(%q, %d, %t) = %q, %d", s, width, whole, field, err)
	}
	wantRead(t, field, whole, s, api.OK)
}
