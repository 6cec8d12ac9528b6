package octal

import (
	"math"
	"strings"
	"testing"

	"creel/api"
)

// wrongWidths are those just outside the range 2 to 12, and far outside it.
var wrongWidths = []int{math.MinInt, -12, -2, -1, 0, 1, 13, 14, 64, 65, 66, 1 << 32, math.MaxInt}

// P1.1
func TestMost(t *testing.T) {
	want := map[int]int{
		2: 7, 3: 63, 4: 511, 5: 4095, 6: 32767, 7: 262143, 8: 2097151,
		9: 16777215, 10: 134217727, 11: 1073741823, 12: 8589934591,
	}
	for width, most := range want {
		if n, err := Most(width); n != most || err != api.OK {
			t.Errorf("Most(%d) = %d, %d, want %d, 0", width, n, err, most)
		}
	}
}

// P1.1
func TestMostWrongWidth(t *testing.T) {
	for _, width := range wrongWidths {
		if n, err := Most(width); n != 0 || err != api.ErrRange {
			t.Errorf("Most(%d) = %d, %d, want 0, ErrRange", width, n, err)
		}
	}
}

// P1.2
func TestWrite(t *testing.T) {
	for _, c := range []struct {
		n, width int
		want     string
	}{
		{8, 4, "010\x00"},
		{0, 2, "0\x00"},
		{7, 2, "7\x00"},
		{0, 4, "000\x00"},
		{511, 4, "777\x00"},
		{0o644, 8, "0000644\x00"},
		{0o1234567, 8, "1234567\x00"},
		{0, 12, "00000000000\x00"},
		{0o12345670123, 12, "12345670123\x00"},
		{8589934591, 12, "77777777777\x00"},
	} {
		if s, err := Write(c.n, c.width); s != c.want || err != api.OK {
			t.Errorf("Write(%d, %d) = %q, %d, want %q, 0", c.n, c.width, s, err, c.want)
		}
	}
}

// P1.2
func TestWriteWrongWidth(t *testing.T) {
	for _, width := range wrongWidths {
		for _, n := range []int{math.MinInt, -1, 0, 1, math.MaxInt} {
			wantNoField(t, n, width)
		}
	}
}

// P1.2
func TestWriteWrongNumber(t *testing.T) {
	for width := 2; width <= 12; width++ {
		most, _ := Most(width)
		for _, n := range []int{math.MinInt, -most - 1, -8, -1, most + 1, 8 * (most + 1), math.MaxInt} {
			wantNoField(t, n, width)
		}
	}
}

func wantNoField(t *testing.T, n, width int) {
	t.Helper()
	if s, err := Write(n, width); s != "" || err != api.ErrRange {
		t.Errorf("Write(%d, %d) = %q, %d, want an empty string, ErrRange", n, width, s, err)
	}
}

// P1.3
func TestRead(t *testing.T) {
	for s, want := range map[string]int{
		"0\x00":           0,
		"7\x00":           7,
		"010\x00":         8,
		"777\x00":         511,
		"0017\x00":        15,
		"0000644\x00":     420,
		"12345670\x00":    0o12345670,
		"00000000000\x00": 0,
		"77777777777\x00": 8589934591,
	} {
		if n, err := Read(s); n != want || err != api.OK {
			t.Errorf("Read(%q) = %d, %d, want %d, 0", s, n, err, want)
		}
	}
}

// P1.3: the length counts first, whatever the bytes are.
func TestReadWrongLength(t *testing.T) {
	for _, s := range []string{
		"", "\x00", "7", "8", "é"[:1],
		strings.Repeat("0", 12) + "\x00", strings.Repeat("0", 13), strings.Repeat("x", 13),
		strings.Repeat("é", 7), strings.Repeat("7", 1000) + "\x00",
	} {
		if n, err := Read(s); n != 0 || err != api.ErrRange {
			t.Errorf("Read(%q) = %d, %d, want 0, ErrRange", s, n, err)
		}
	}
}

// P1.3
func TestReadWrongForm(t *testing.T) {
	for _, s := range []string{
		"0018\x00", "9000\x00", "00170", "0017 ", "0017\x01", "0017\xff", "77", "777777777777",
		" 017\x00", "001 \x00", "-017\x00", "+017\x00", "0x17\x00", "0_17\x00", "é\x00", "x\x00",
		"\x00\x00", "\x00017\x00", "00\x007\x00", "017\x00\x00", "017\x000", "8x",
	} {
		wantWrongForm(t, s)
	}
}

// P1.3: every byte, at every place of a field.
func TestReadEveryByte(t *testing.T) {
	for place := range 4 {
		for b := range 256 {
			field := []byte("000\x00")
			field[place] = byte(b)
			digit := '0' <= b && b <= '7'
			if place == 3 && b != 0 || place < 3 && !digit {
				wantWrongForm(t, string(field))
			} else if _, err := Read(string(field)); err != api.OK {
				t.Errorf("Read(%q) has the error %d", field, err)
			}
		}
	}
}

func wantWrongForm(t *testing.T, s string) {
	t.Helper()
	if n, err := Read(s); n != 0 || err != api.ErrForm {
		t.Errorf("Read(%q) = %d, %d, want 0, ErrForm", s, n, err)
	}
}

// P1.2 and P1.3: what is written is read again, at every width.
func TestReadWhatIsWritten(t *testing.T) {
	for width := 2; width <= 12; width++ {
		most, _ := Most(width)
		for _, n := range []int{0, 1, 7, most / 8, most / 3, most - 1, most} {
			wantSameNumber(t, n, width)
		}
	}
	for n := range 4096 {
		wantSameNumber(t, n, 5)
	}
}

func wantSameNumber(t *testing.T, n, width int) {
	t.Helper()
	s, err := Write(n, width)
	if err != api.OK || len(s) != width {
		t.Errorf("Write(%d, %d) = %q, %d, want %d bytes", n, width, s, err, width)
	}
	if got, err := Read(s); got != n || err != api.OK {
		t.Errorf("Read(%q) = %d, %d, want %d, 0", s, got, err, n)
	}
}
