package record

import (
	"regexp"
	"strconv"
	"strings"
	"testing"

	"creel/api"
)

func wantCheck(t *testing.T, key, value string, want api.Errno) {
	t.Helper()
	if err := Check(api.Record{Key: key, Value: value}); err != want {
		t.Errorf("Check(%q, %q) = %d, want %d", key, value, err, want)
	}
}

func wantWrite(t *testing.T, key, value, want string, wantErr api.Errno) {
	t.Helper()
	if s, err := Write(api.Record{Key: key, Value: value}); s != want || err != wantErr {
		t.Errorf("Write(%q, %q) = %q, %d, want %q, %d", key, value, s, err, want, wantErr)
	}
}

func wantRead(t *testing.T, s, key, value, rest string, want api.Errno) {
	t.Helper()
	r, gotRest, err := Read(s)
	if r.Key != key || r.Value != value || gotRest != rest || err != want {
		t.Errorf("Read(%q) = %q, %q, %q, %d, want %q, %q, %q, %d", s, r.Key, r.Value, gotRest, err, key, value, rest, want)
	}
}

func wantReadError(t *testing.T, s string, want api.Errno) {
	t.Helper()
	wantRead(t, s, "", "", "", want)
}

func xs(n int) string { return strings.Repeat("x", n) }

// checks are records, and what is wrong with them.
var checks = []struct {
	key, value string
	err        api.Errno
}{
	{"a", "", api.OK},
	{"a", "b", api.OK},
	{"path", "a/b", api.OK},
	{" ", " ", api.OK},
	{"a", "=", api.OK},
	{"a", "\n", api.OK},
	{"a", "b=c\nd=", api.OK},
	{"5 a", "\n5 a=\n", api.OK},
	{"\x00", "", api.OK},
	{"a\x00b", "c", api.OK},
	{"\r\t\v", "\r\t\v", api.OK},
	{"\xff\x80", "\xff\x80", api.OK},
	{"é", "日", api.OK},
	{xs(59), "", api.OK},
	{xs(60), "", api.OK},
	{"a", xs(499), api.OK},
	{"a", xs(500), api.OK},
	{xs(60), xs(500), api.OK},
	{"", "", api.ErrSize},
	{"", "b", api.ErrSize},
	{xs(61), "", api.ErrSize},
	{xs(1000), "", api.ErrSize},
	{strings.Repeat("é", 31), "", api.ErrSize},
	{"a", xs(501), api.ErrSize},
	{"a", xs(5000), api.ErrSize},
	{"a", strings.Repeat("é", 251), api.ErrSize},
	{"", xs(501), api.ErrSize},
	{xs(61), xs(501), api.ErrSize},
	{"=", "", api.ErrForm},
	{"a=", "", api.ErrForm},
	{"=a", "", api.ErrForm},
	{"a=b", "c", api.ErrForm},
	{"\n", "", api.ErrForm},
	{"a\n", "", api.ErrForm},
	{"\na", "", api.ErrForm},
	{"a\nb", "c", api.ErrForm},
	{"a", "\x00", api.ErrForm},
	{"a", "b\x00", api.ErrForm},
	{"a", "\x00b", api.ErrForm},
	{"a", "b\x00c", api.ErrForm},
	{xs(59) + "=", xs(499) + "\x00", api.ErrForm},
	{xs(59) + "\n", "", api.ErrForm},
	{"\xff=", "", api.ErrForm},
	{"\xff\n", "", api.ErrForm},
	{"a", "\xff\x00", api.ErrForm},
	// The sizes are checked ahead of the bytes.
	{xs(60) + "=", "", api.ErrSize},
	{xs(60) + "\n", "", api.ErrSize},
	{"", "\x00", api.ErrSize},
	{"a", xs(500) + "\x00", api.ErrSize},
	{"=", xs(501), api.ErrSize},
	{"\n", xs(501), api.ErrSize},
}

// P6.1
func TestCheck(t *testing.T) {
	for _, c := range checks {
		wantCheck(t, c.key, c.value, c.err)
	}
}

// P6.1: every byte, in a key and in a value.
func TestCheckEveryByte(t *testing.T) {
	for b := range 256 {
		s := string([]byte{byte(b)})
		keyErr, valueErr := api.OK, api.OK
		if s == "=" || s == "\n" {
			keyErr = api.ErrForm
		}
		if s == "\x00" {
			valueErr = api.ErrForm
		}
		for _, around := range []string{"", "x", "\x80"} {
			wantCheck(t, around+s+around, "v", keyErr)
			wantCheck(t, "k", around+s+around, valueErr)
		}
	}
}

// P6.2
func TestWrite(t *testing.T) {
	for _, c := range []struct{ key, value, want string }{
		{"a", "b", "6 a=b\n"},
		{"a", "", "5 a=\n"},
		{"path", "xy", "11 path=xy\n"},
		{"a", "=", "6 a==\n"},
		{"a", "\n", "6 a=\n\n"},
		{"5 a", "5 a=\n", "13 5 a=5 a=\n\n"},
		{"\x00", "\xff", "6 \x00=\xff\n"},
		{"é", "日", "9 é=日\n"},
		// Sizes at which the number gets one digit more.
		{"a", "bcd", "8 a=bcd\n"},
		{"a", "bcde", "9 a=bcde\n"},
		{"kkkk", "v", "9 kkkk=v\n"},
		{"a", "bcdef", "11 a=bcdef\n"},
		{"kkkk", "vw", "11 kkkk=vw\n"},
		{"a", "bcdefg", "12 a=bcdefg\n"},
		{"a", xs(92), "98 a=" + xs(92) + "\n"},
		{"a", xs(93), "99 a=" + xs(93) + "\n"},
		{"a", xs(94), "101 a=" + xs(94) + "\n"},
		{"a", xs(95), "102 a=" + xs(95) + "\n"},
		{xs(60), xs(500), "566 " + xs(60) + "=" + xs(500) + "\n"},
	} {
		wantWrite(t, c.key, c.value, c.want, api.OK)
	}
}

// writeByWords is the encoding with the first number, from 1 on, that is the length of the encoding.
func writeByWords(key, value string) string {
	for n := 1; ; n++ {
		if s := strconv.Itoa(n) + " " + key + "=" + value + "\n"; len(s) == n {
			return s
		}
	}
}

// P6.2 and P6.3: every size of a key and of a value.
func TestWriteEverySize(t *testing.T) {
	for key := 1; key <= api.MaxName; key++ {
		for value := range api.MaxValue + 1 {
			s := writeByWords(xs(key), xs(value))
			wantWrite(t, xs(key), xs(value), s, api.OK)
			wantRead(t, s+"more", xs(key), xs(value), "more", api.OK)
		}
	}
}

// P6.2: the errors of Check.
func TestWriteErrors(t *testing.T) {
	for _, c := range checks {
		want := ""
		if c.err == api.OK {
			want = writeByWords(c.key, c.value)
		}
		wantWrite(t, c.key, c.value, want, c.err)
	}
}

// P6.3
func TestRead(t *testing.T) {
	for _, c := range []struct{ s, key, value, rest string }{
		{"6 a=b\n", "a", "b", ""},
		{"5 a=\n", "a", "", ""},
		{"5 a=\nmore", "a", "", "more"},
		{"5 a=\n\n", "a", "", "\n"},
		{"5 a=\n\x00", "a", "", "\x00"},
		{"5 a=\n5 a=\n", "a", "", "5 a=\n"},
		{"6 a=b\n6 c=d\n7 x", "a", "b", "6 c=d\n7 x"},
		{"9 kkkk=v\n", "kkkk", "v", ""},
		{"11 path=xy\n", "path", "xy", ""},
		{"11 path=xy\n" + xs(1000), "path", "xy", xs(1000)},
		{"6 a==\n", "a", "=", ""},
		{"9 a=b=c=\n", "a", "b=c=", ""},
		{"6 a=\n\n", "a", "\n", ""},
		{"6 a= \n", "a", " ", ""},
		{"5  =\n", " ", "", ""},
		{"7 5 a=\n", "5 a", "", ""},
		{"13 a=6 a=b\n\n\n", "a", "6 a=b\n\n", ""},
		{"6 \x00=\xff\n", "\x00", "\xff", ""},
		{"99 a=" + xs(93) + "\n", "a", xs(93), ""},
		{"101 a=" + xs(94) + "\nb", "a", xs(94), "b"},
		{"566 " + xs(60) + "=" + xs(500) + "\n=", xs(60), xs(500), "="},
	} {
		wantRead(t, c.s, c.key, c.value, c.rest, api.OK)
	}
}

// P6.3: no number in front, even where the text is too short, too.
func TestReadNoNumber(t *testing.T) {
	for _, s := range []string{
		"", " ", "\n", "=", "a", "a=b\n", " a=b\n", " 6 a=b\n", "\n6 a=b\n", "\x006 a=b\n", "x 6 a=b\n",
		"5", "55", "5555", "9999", "5a=\n", "5\na=\n", "5=a=\n", "5\x00a=\n", "5\ta=\n", "6a =b\n", "5=", "5\n",
		"0 ", "0 a=\n", "00 a=\n", "05 a=\n", "005 a=\n", "06 a=b\n", "007 a=b\n", "0000 a=\n",
		"+5 a=\n", "-5 a=\n", "+6 a=\n", "-6 a=\n", "5. a=\n", "5.0 a=\n", "0x5 a=\n", "5_0 a=\n", "1e1 a=\n", "5x a=\n", "x5 a=\n", "٥ a=\n",
		"/ a=\n", ": a=\n", "5: a=\n", "5/ a=\n", "55: a=\n", "555: a=\n", "5a5 a=\n",
		"10000 a=\n", "00005 a=\n", "99999 a=\n", "55555", "999999999999999999999 a=\n", "18446744073709551621 a=\n",
		"10000 a=" + xs(9991) + "\n", "10007 a=" + xs(9998) + "\n", strings.Repeat("5", 5000), strings.Repeat("5", 5000) + " a=\n",
	} {
		wantReadError(t, s, api.ErrForm)
	}
}

// P6.3: fewer bytes than the number tells, whatever they are.
func TestReadShort(t *testing.T) {
	for _, s := range []string{
		"9 a=\n", "6 a=\n", "6 a=b", "5 a=", "5 a", "5 ", "3 ", "9 ", "99 a=\n", "999 a=\n", "9999 a=\n", "1000 a=\n", "9999 ",
		"4 =", "9 =\n", "9 a\n", "9 a=\x00\n", "9 =b\n", "9 a\nb=\n", "90 " + xs(60) + "x=\n", "9 5 a=\n",
		"9999 " + xs(61) + "=" + xs(9930) + "\n", "566 " + xs(60) + "=" + xs(500), "10 kkkk=v",
	} {
		wantReadError(t, s, api.ErrShort)
	}
}

// P6.3: the length of a whole encoding, which is none.
func TestReadForm(t *testing.T) {
	for _, s := range []string{
		// It ends ahead of the space, at it, or behind it.
		"1 ", "1 a=\n", "1 \n", "2 ", "2 a=\n", "2 =\n", "2 \n", "3 a=\n", "3 \na=\n", "3 =", "3 =\n", "3 \n", "3 a\n",
		"10 a=\nxxxxx", "1 a=" + xs(500) + "\n", "10 a=" + xs(500) + "\n",
		// No line feed at its end.
		"4 a=\n", "5 a=x\n", "5 a=bc", "5 a=b\n", "5 a=\r\n", "5 a=\x00\n", "7 a=b\n6 a=b\n", "4 a=", "4 ==", "5 a==", "6 a=\nb", "5 a=\x8a",
		// No equals sign ahead of its end.
		"4 a\n", "4 a\n=", "5 ab\n", "5 ab\n=\n", "6 a\nb\n", "4 \n\n", "4 \x00\n", "9 kkkkkv\n5 a=\n", "12 " + xs(8) + "\n=",
		// Neither, or with a key or a value that is too long.
		"5 abc", "9 =aaaaaa", "5 =\x00x", "70 " + xs(67), "600 " + xs(70) + "=" + xs(530), "100 " + xs(95) + "\n",
	} {
		wantReadError(t, s, api.ErrForm)
	}
}

// P6.3: the errors of Check.
func TestReadCheck(t *testing.T) {
	for _, c := range checks {
		s := writeByWords(c.key, c.value) + "more"
		switch {
		case strings.Contains(c.key, "="):
			// The first one ends the key.
		case c.err == api.OK:
			wantRead(t, s, c.key, c.value, "more", api.OK)
		default:
			wantReadError(t, s, c.err)
		}
	}
	wantReadError(t, "4 =\n", api.ErrSize)
	wantReadError(t, "5 ==\n", api.ErrSize)
	wantReadError(t, "5 =\x00\n", api.ErrSize)
	wantReadError(t, "9999 a="+xs(9991)+"\n", api.ErrSize)
	wantReadError(t, "9999 "+xs(9992)+"=\n", api.ErrSize)
	wantReadError(t, "9999 "+xs(61)+"="+xs(9931)+"\n", api.ErrSize)
	wantReadError(t, "6 \na=\n", api.ErrForm)
	wantReadError(t, "6 a\n=\n", api.ErrForm)
	wantReadError(t, "5 \n=\n", api.ErrForm)
	wantReadError(t, "6 a=\x00\n", api.ErrForm)
}

// P6.3: numbers that count the bytes, but are not the smallest ones.
func TestReadNotWritten(t *testing.T) {
	for _, s := range []string{
		"10 kkkk=v\n", "10 a=bcde\n", "10 kkkkk=\n", "10 k=====\n", "10 kkkk=\n\n", "10 kkkk=v\nmore",
		"100 a=" + xs(93) + "\n", "100 " + xs(60) + "=" + xs(34) + "\n", "100 a=" + xs(93) + "\nmore",
	} {
		wantReadError(t, s, api.ErrForm)
	}
	// These have an error of Check as well, which is checked first.
	wantReadError(t, "10 =bcdef\n", api.ErrSize)
	wantReadError(t, "10 =====v\n", api.ErrSize)
	wantReadError(t, "100 "+xs(61)+"="+xs(33)+"\n", api.ErrSize)
	wantReadError(t, "1000 a="+xs(992)+"\n", api.ErrSize)
}

var number = regexp.MustCompile(`\A[1-9][0-9]{0,3} `)

// readByWords does what P6.3 tells, one condition after the other.
func readByWords(s string) (key, value, rest string, err api.Errno) {
	start := number.FindString(s)
	if start == "" {
		return "", "", "", api.ErrForm
	}
	n, _ := strconv.Atoi(start[:len(start)-1])
	if n > len(s) {
		return "", "", "", api.ErrShort
	}
	if n <= len(start) || s[n-1] != '\n' || strings.Count(s[len(start):n], "=") == 0 {
		return "", "", "", api.ErrForm
	}
	equals := len(start)
	for s[equals] != '=' {
		equals++
	}
	key, value = s[len(start):equals], s[equals+1:n-1]
	if err := Check(api.Record{Key: key, Value: value}); err != api.OK {
		return "", "", "", err
	}
	if writeByWords(key, value) != s[:n] {
		return "", "", "", api.ErrForm
	}
	return key, value, s[n:], api.OK
}

func wantReadByWords(t *testing.T, s string) {
	t.Helper()
	key, value, rest, err := readByWords(s)
	wantRead(t, s, key, value, rest, err)
}

// P6.3: all short strings of the bytes that matter.
func TestReadEveryShort(t *testing.T) {
	const alphabet = "0156 =\n\x00a"
	all := []string{""}
	for i := 0; i < len(all); i++ {
		wantReadByWords(t, all[i])
		for k := range len(alphabet) {
			if len(all[i]) < 6 {
				all = append(all, all[i]+alphabet[k:k+1])
			}
		}
	}
}

// P6.3: every number in front of texts of many sizes.
func TestReadEveryNumber(t *testing.T) {
	for _, body := range []string{
		"", "=\n", "a=\n", "a=b\n", "a=bcd\n", "a=bcde\n", "kkkk=v\n", "a=bcdef\n", "a=\n\n\n\n\n\n\n\n\n\n\n\n", "=======\n", "a=" + strings.Repeat("\n", 600),
		"a=" + xs(92) + "\n", "a=" + xs(93) + "\n", "a=" + xs(94) + "\n", strings.Repeat("a=\n", 300), xs(60) + "=" + strings.Repeat("\n", 1000),
	} {
		for n := range 1200 {
			wantReadByWords(t, strconv.Itoa(n)+" "+body)
		}
	}
}

// P6.3: every byte in place of, and in front of, every byte of a text; and every byte left out.
func TestReadEveryByte(t *testing.T) {
	for _, s := range []string{"5 a=\n", "6 a=b\nmore", "11 path=xy\n", "9 kkkk=v\n", "10 kkkk=v\n", "101 a=" + xs(94) + "\n", "99 " + xs(60) + "=" + xs(34) + "\n5 a=\n"} {
		for i := range len(s) + 1 {
			before, rest := s[:i], s[i:]
			for b := range 256 {
				wantReadByWords(t, before+string([]byte{byte(b)})+rest)
				if rest != "" {
					wantReadByWords(t, before+string([]byte{byte(b)})+rest[1:])
				}
			}
			if rest != "" {
				wantReadByWords(t, before+rest[1:])
			}
		}
	}
}
