package stamp

import (
	"math"
	"math/big"
	"regexp"
	"slices"
	"strings"
	"testing"

	"creel/api"
)

// Numbers just inside and just outside the limits, and far outside them.
var (
	rightSeconds = []int{
		-api.MaxSecond, -api.MaxSecond + 1, -1 << 33, -1000000000, -100, -11, -10, -9, -2, -1, 0, 1, 2, 9, 10, 11, 60, 100,
		86400, 1<<33 - 1, 1 << 33, api.MaxSecond - 1, api.MaxSecond,
	}
	rightNanos = []int{
		0, 1, 9, 10, 99, 100, 1000, 1001, 123456789, 100000000, 100000001, 499999999, 500000000, 900000000, 990000000,
		987654321, 999999990, api.MaxNano - 1, api.MaxNano,
	}
	wrongSeconds = []int{math.MinInt, math.MinInt + 1, -api.MaxSecond - 2, -api.MaxSecond - 1, api.MaxSecond + 1, api.MaxSecond + 2, math.MaxInt}
	wrongNanos   = []int{math.MinInt, math.MinInt + 1, -api.MaxNano, -2, -1, api.MaxNano + 1, api.MaxNano + 2, 1 << 32, math.MaxInt}
)

func wantText(t *testing.T, second, nano int, want string, wantErr api.Errno) {
	t.Helper()
	if s, err := Text(second, nano); s != want || err != wantErr {
		t.Errorf("Text(%d, %d) = %q, %d, want %q, %d", second, nano, s, err, want, wantErr)
	}
}

func wantParse(t *testing.T, s string, second, nano int, want api.Errno) {
	t.Helper()
	if gotSecond, gotNano, err := Parse(s); gotSecond != second || gotNano != nano || err != want {
		t.Errorf("Parse(%q) = %d, %d, %d, want %d, %d, %d", s, gotSecond, gotNano, err, second, nano, want)
	}
}

// P5.1
func TestCheck(t *testing.T) {
	for _, second := range rightSeconds {
		for _, nano := range rightNanos {
			if err := Check(second, nano); err != api.OK {
				t.Errorf("Check(%d, %d) = %d, want 0", second, nano, err)
			}
		}
	}
}

// eachWrongTime calls f with times whose seconds, nanoseconds, or both are outside the limits.
func eachWrongTime(f func(second, nano int)) {
	for _, second := range wrongSeconds {
		for _, nano := range slices.Concat(wrongNanos, rightNanos) {
			f(second, nano)
		}
	}
	for _, second := range rightSeconds {
		for _, nano := range wrongNanos {
			f(second, nano)
		}
	}
}

// P5.1
func TestCheckRange(t *testing.T) {
	eachWrongTime(func(second, nano int) {
		if err := Check(second, nano); err != api.ErrRange {
			t.Errorf("Check(%d, %d) = %d, want ErrRange", second, nano, err)
		}
	})
}

// texts are times and their texts.
var texts = []struct {
	second, nano int
	text         string
}{
	{0, 0, "0"},
	{7, 0, "7"},
	{10, 0, "10"},
	{1700, 0, "1700"},
	{12, 500000000, "12.5"},
	{7, 1, "7.000000001"},
	{7, 10, "7.00000001"},
	{0, 1, "0.000000001"},
	{0, 100000000, "0.1"},
	{0, 10000000, "0.01"},
	{0, 101000000, "0.101"},
	{0, 123456789, "0.123456789"},
	{0, 999999999, "0.999999999"},
	{100, 120000000, "100.12"},
	{-1, 0, "-1"},
	{-2, 0, "-2"},
	{-10, 0, "-10"},
	{-1, 500000000, "-0.5"},
	{-1, 1, "-0.999999999"},
	{-1, 999999999, "-0.000000001"},
	{-1, 990000000, "-0.01"},
	{-2, 500000000, "-1.5"},
	{-2, 999999999, "-1.000000001"},
	{-2, 1, "-1.999999999"},
	{-11, 900000000, "-10.1"},
	{1 << 40, 0, "1099511627776"},
	{1 << 40, 999999999, "1099511627776.999999999"},
	{-1 << 40, 0, "-1099511627776"},
	{-1 << 40, 1, "-1099511627775.999999999"},
	{-1 << 40, 999999999, "-1099511627775.000000001"},
}

// P5.2
func TestText(t *testing.T) {
	for _, c := range texts {
		wantText(t, c.second, c.nano, c.text, api.OK)
	}
}

// textByWords is the decimal number of a time, computed with fractions of any size.
func textByWords(second, nano int) string {
	time := big.NewRat(int64(nano), 1000000000)
	time.Add(time, big.NewRat(int64(second), 1))
	return strings.TrimSuffix(strings.TrimRight(time.FloatString(9), "0"), ".")
}

// P5.2: all times of the limits; and P5.3: they are read again.
func TestTextEveryTime(t *testing.T) {
	for _, second := range rightSeconds {
		for _, nano := range rightNanos {
			s := textByWords(second, nano)
			wantText(t, second, nano, s, api.OK)
			wantParse(t, s, second, nano, api.OK)
		}
	}
}

// P5.2 and P5.3: every count of digits, on both sides of 0.
func TestTextEveryFraction(t *testing.T) {
	for _, second := range []int{-3, -2, -1, 0, 1, 2} {
		for unit := 1; unit < 1000000000; unit *= 10 {
			for k := range 1000 {
				if nano := k * unit; nano <= api.MaxNano {
					s := textByWords(second, nano)
					wantText(t, second, nano, s, api.OK)
					wantParse(t, s, second, nano, api.OK)
				}
			}
		}
	}
}

// P5.2
func TestTextRange(t *testing.T) {
	eachWrongTime(func(second, nano int) { wantText(t, second, nano, "", api.ErrRange) })
}

// P5.3
func TestParse(t *testing.T) {
	for _, c := range texts {
		wantParse(t, c.text, c.second, c.nano, api.OK)
	}
}

// P5.3
func TestParseForm(t *testing.T) {
	for _, s := range []string{
		"", "-", ".", "-.", "+", "x", " ", "\x00", "\xff",
		"-0", "-0.0", "00", "007", "-007", "01", "-01", "00.5", "-00.5", "000000000000000000000000000000001",
		"7.", "-7.", ".5", "-.5", "0.", "-0.", "0.0", "7.0", "7.50", "-7.50", "7.000000000", "7.0000000010",
		"7.0000000001", "-0.0000000001", "0.1234567891", "0.0000000000000000000000001",
		"+7", "+0", "+0.5", "--7", "---7", "-+7", "+-7", "7-", "7.-5", "7.+5", "-7.-5", "7.5-", "7.-", "0.+", "0.-",
		" 7", "7 ", "7 .5", "7. 5", "- 7", "7\n", "7\x00", "\x007", "7.5\x00", "7.5 ",
		"7,5", "7..5", "7.5.", "7.5.5", ".7.5", "7e1", "7e-1", "7E1", "0x7", "0b1", "0o7", "1_000", "7.5_5", "7.5e1",
		"inf", "-Inf", "nan", "٧", "７", "−7", "7s",
	} {
		wantParse(t, s, 0, 0, api.ErrForm)
	}
}

// P5.3: numbers of the right form that are the texts of no time.
func TestParseBeyondLimits(t *testing.T) {
	for _, s := range []string{
		"1099511627777", "1099511627777.5", "-1099511627777", "-1099511627776.5", "-1099511627776.000000001", "-1099511627776.999999999",
		"2199023255552", "9999999999999", "-9999999999999", "9223372036854775807", "-9223372036854775807", "-9223372036854775808",
		"9223372036854775808", "-9223372036854775809", "--9223372036854775808", "--9223372036854775808.5", "18446744073709551616",
		"18446744073709551623", "-18446744073709551617", "18446744073709551616.5", "0.18446744073709551617", "0.1000000000000000000000001",
		strings.Repeat("9", 5000), "-" + strings.Repeat("9", 5000), "0." + strings.Repeat("9", 5000), strings.Repeat("0", 5000), strings.Repeat("-", 5000),
		strings.Repeat(".", 5000),
	} {
		wantParse(t, s, 0, 0, api.ErrForm)
	}
}

// form of a text, apart from the sign of 0 and the limits of times.
var form = regexp.MustCompile(`\A-?(0|[1-9][0-9]*)(\.[0-9]{0,8}[1-9])?\z`)

// parseByWords is the time of a text, computed with fractions of any size.
func parseByWords(s string) (int, int, api.Errno) {
	if !form.MatchString(s) || s == "-0" {
		return 0, 0, api.ErrForm
	}
	time, _ := new(big.Rat).SetString(s)
	time.Mul(time, big.NewRat(1000000000, 1))
	second, nano := new(big.Int).DivMod(time.Num(), big.NewInt(1000000000), new(big.Int))
	limit := big.NewInt(api.MaxSecond)
	if second.CmpAbs(limit) > 0 {
		return 0, 0, api.ErrForm
	}
	return int(second.Int64()), int(nano.Int64()), api.OK
}

func wantParseByWords(t *testing.T, s string) {
	t.Helper()
	second, nano, err := parseByWords(s)
	wantParse(t, s, second, nano, err)
}

// P5.3: all short strings of the bytes of a text, and of some others that a number may have.
func TestParseEveryShort(t *testing.T) {
	const alphabet = "-.0519+_e"
	all := []string{""}
	for i := 0; i < len(all); i++ {
		wantParseByWords(t, all[i])
		for k := range len(alphabet) {
			if len(all[i]) < 5 {
				all = append(all, all[i]+alphabet[k:k+1])
			}
		}
	}
}

// P5.3: every byte in place of, and in front of, every byte of a text; and every byte left out.
func TestParseEveryByte(t *testing.T) {
	for _, c := range texts {
		for i := range len(c.text) + 1 {
			before, rest := c.text[:i], c.text[i:]
			for b := range 256 {
				wantParseByWords(t, before+string([]byte{byte(b)})+rest)
				if rest != "" {
					wantParseByWords(t, before+string([]byte{byte(b)})+rest[1:])
				}
			}
			if rest != "" {
				wantParseByWords(t, before+rest[1:])
			}
		}
	}
}
