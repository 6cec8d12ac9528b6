package meta

import (
	"math"
	"strings"
	"testing"

	"creel/api"
)

// right is metadata with nothing wrong in it, and no field of value zero.
var right = api.Meta{Mode: 0o644, UID: 1000, GID: 100, User: "ann", Group: "staff", Second: 1700000000, Nano: 5}

// wrongModes are those just outside the range 0 to 4095, and far outside it.
var wrongModes = []int{
	math.MinInt, math.MinInt + 1, -1 << 32, -4096, -4095, -512, -2, -1, 4096, 4097, 4096 + 0o644, 8191, 8192,
	0o100644, 1 << 31, 1 << 32, 1<<32 + 0o644, math.MaxInt - 1, math.MaxInt,
}

func xs(n int) string { return strings.Repeat("x", n) }

// wantCheck checks right metadata after some changes.
func wantCheck(t *testing.T, want api.Errno, changes ...func(*api.Meta)) {
	t.Helper()
	m := right
	for _, change := range changes {
		change(&m)
	}
	if err := Check(m); err != want {
		t.Errorf("Check(%+v) = %d, want %d", m, err, want)
	}
}

func wantText(t *testing.T, mode int, want string, wantErr api.Errno) {
	t.Helper()
	if s, err := Text(mode); s != want || err != wantErr {
		t.Errorf("Text(%#o) = %q, %d, want %q, %d", mode, s, err, want, wantErr)
	}
}

func wantParse(t *testing.T, s string, want int, wantErr api.Errno) {
	t.Helper()
	if mode, err := Parse(s); mode != want || err != wantErr {
		t.Errorf("Parse(%q) = %#o, %d, want %#o, %d", s, mode, err, want, wantErr)
	}
}

// numbers are the fields that are numbers, and their limits.
var numbers = []struct {
	name        string
	least, most int
	set         func(*api.Meta, int)
}{
	{"Mode", 0, 4095, func(m *api.Meta, n int) { m.Mode = n }},
	{"UID", 0, 1 << 50, func(m *api.Meta, n int) { m.UID = n }},
	{"GID", 0, 1 << 50, func(m *api.Meta, n int) { m.GID = n }},
	{"Second", -1 << 40, 1 << 40, func(m *api.Meta, n int) { m.Second = n }},
	{"Nano", 0, 999999999, func(m *api.Meta, n int) { m.Nano = n }},
}

// names are the fields that are strings.
var names = []func(*api.Meta, string){
	func(m *api.Meta, s string) { m.User = s },
	func(m *api.Meta, s string) { m.Group = s },
}

// P10.1
func TestCheck(t *testing.T) {
	wantCheck(t, api.OK)
	wantCheck(t, api.OK, func(m *api.Meta) { *m = api.Meta{} })
	wantCheck(t, api.OK, func(m *api.Meta) {
		*m = api.Meta{Mode: 4095, UID: 1 << 50, GID: 1 << 50, User: xs(60), Group: xs(60), Second: 1 << 40, Nano: 999999999}
	})
	wantCheck(t, api.OK, func(m *api.Meta) { m.Second, m.Nano = -1<<40, 999999999 })
}

// P10.1: each number at its limits, and beyond them.
func TestCheckRange(t *testing.T) {
	for _, c := range numbers {
		for _, n := range []int{c.least, c.least + 1, (c.least + c.most) / 2, c.most - 1, c.most} {
			wantCheck(t, api.OK, func(m *api.Meta) { c.set(m, n) })
		}
		for _, n := range []int{
			math.MinInt, math.MinInt + 1, c.least - c.most, c.least - 2, c.least - 1, c.most + 1, c.most + 2, 2*c.most + 2,
			1 << 51, math.MaxInt - 1, math.MaxInt,
		} {
			wantCheck(t, api.ErrRange, func(m *api.Meta) { c.set(m, n) })
		}
	}
}

// P10.1: every mode is right, whatever bits it has.
func TestCheckEveryMode(t *testing.T) {
	for mode := range 4096 {
		wantCheck(t, api.OK, func(m *api.Meta) { m.Mode = mode })
	}
	for _, mode := range wrongModes {
		wantCheck(t, api.ErrRange, func(m *api.Meta) { m.Mode = mode })
	}
}

// P10.1: lengths are counted in bytes, and any bytes but 0 may be in a name.
func TestCheckNames(t *testing.T) {
	for _, set := range names {
		for _, s := range []string{
			"", "a", " ", "/", "=", "\n", "\xff\x80", "日本", "root:x:0", xs(31), xs(32), xs(59), xs(60), strings.Repeat("é", 30),
		} {
			wantCheck(t, api.OK, func(m *api.Meta) { set(m, s) })
		}
		for _, s := range []string{xs(61), xs(62), xs(1000), strings.Repeat("é", 31), strings.Repeat("日", 21)} {
			wantCheck(t, api.ErrSize, func(m *api.Meta) { set(m, s) })
		}
		for b := range 256 {
			want := api.OK
			if b == 0 {
				want = api.ErrForm
			}
			wantCheck(t, want, func(m *api.Meta) { set(m, string([]byte{byte(b)})) })
			wantCheck(t, want, func(m *api.Meta) { set(m, "a"+string([]byte{byte(b)})+"b") })
		}
	}
}

// P10.1: a byte 0 at every place of a name.
func TestCheckZeroByte(t *testing.T) {
	for _, set := range names {
		for at := range 60 {
			wantCheck(t, api.ErrForm, func(m *api.Meta) { set(m, xs(at)+"\x00") })
			wantCheck(t, api.ErrForm, func(m *api.Meta) { set(m, xs(at)+"\x00"+xs(59-at)) })
		}
	}
}

// wrongs are single things that are wrong, in the order in which they are checked.
var wrongs = []struct {
	err    api.Errno
	change func(*api.Meta)
}{
	{api.ErrRange, func(m *api.Meta) { m.Mode = -1 }},
	{api.ErrRange, func(m *api.Meta) { m.Mode = 4096 }},
	{api.ErrRange, func(m *api.Meta) { m.UID = -1 }},
	{api.ErrRange, func(m *api.Meta) { m.UID = 1<<50 + 1 }},
	{api.ErrRange, func(m *api.Meta) { m.GID = -1 }},
	{api.ErrRange, func(m *api.Meta) { m.GID = 1<<50 + 1 }},
	{api.ErrSize, func(m *api.Meta) { m.User = xs(61) }},
	{api.ErrSize, func(m *api.Meta) { m.User = xs(30) + "\x00" + xs(30) }},
	{api.ErrSize, func(m *api.Meta) { m.Group = xs(61) }},
	{api.ErrSize, func(m *api.Meta) { m.Group = "\x00" + xs(60) }},
	{api.ErrForm, func(m *api.Meta) { m.User = "\x00" }},
	{api.ErrForm, func(m *api.Meta) { m.Group = "a\x00" }},
	{api.ErrRange, func(m *api.Meta) { m.Second = 1<<40 + 1 }},
	{api.ErrRange, func(m *api.Meta) { m.Second = -1<<40 - 1 }},
	{api.ErrRange, func(m *api.Meta) { m.Nano = -1 }},
	{api.ErrRange, func(m *api.Meta) { m.Nano = 1000000000 }},
}

// P10.1: of two things that are wrong, the one that is checked earlier counts. It is put in last, so that it stays where
// both are in one field.
func TestCheckOrder(t *testing.T) {
	for i, first := range wrongs {
		wantCheck(t, first.err, first.change)
		for _, later := range wrongs[i+1:] {
			wantCheck(t, first.err, later.change, first.change)
		}
	}
	wantCheck(t, api.ErrSize, func(m *api.Meta) { m.User, m.Group, m.Nano = xs(61), "\x00", -1 })
	wantCheck(t, api.ErrForm, func(m *api.Meta) { m.User, m.Group, m.Second = "\x00", "\x00", 1<<40+1 })
	wantCheck(t, api.ErrRange, func(m *api.Meta) {
		*m = api.Meta{Mode: -1, UID: -1, GID: -1, User: xs(61), Group: "\x00", Second: 1 << 41, Nano: -1}
	})
}

// texts are modes and their symbolic forms.
var texts = []struct {
	mode int
	text string
}{
	{0, "---------"},
	{493, "rwxr-xr-x"},
	{0o644, "rw-r--r--"},
	{0o777, "rwxrwxrwx"},
	{0o600, "rw-------"},
	{0o400, "r--------"},
	{0o200, "-w-------"},
	{0o100, "--x------"},
	{0o040, "---r-----"},
	{0o020, "----w----"},
	{0o010, "-----x---"},
	{0o004, "------r--"},
	{0o002, "-------w-"},
	{0o001, "--------x"},
	{0o4000, "--S------"},
	{0o4100, "--s------"},
	{0o2000, "-----S---"},
	{0o2010, "-----s---"},
	{0o1000, "--------T"},
	{0o1001, "--------t"},
	{0o4010, "--S--x---"},
	{0o2100, "--x--S---"},
	{0o1110, "--x--x--T"},
	{0o6001, "--S--S--x"},
	{0o4755, "rwsr-xr-x"},
	{0o2755, "rwxr-sr-x"},
	{0o1777, "rwxrwxrwt"},
	{0o4644, "rwSr--r--"},
	{0o2644, "rw-r-Sr--"},
	{0o1666, "rw-rw-rwT"},
	{0o5750, "rwsr-x--T"},
	{0o7000, "--S--S--T"},
	{0o7111, "--s--s--t"},
	{0o7666, "rwSrwSrwT"},
	{0o7777, "rwsrwsrwt"},
}

// P10.2 and P10.3
func TestTextAndParse(t *testing.T) {
	for _, c := range texts {
		wantText(t, c.mode, c.text, api.OK)
		wantParse(t, c.text, c.mode, api.OK)
	}
}

// textByWords is the symbolic form of a mode, character by character as the promise tells it.
func textByWords(mode int) string {
	bit := func(n int) bool { return mode&(1<<n) != 0 }
	text := []byte("rwxrwxrwx")
	for i := range text {
		if !bit(8 - i) {
			text[i] = '-'
		}
	}
	for _, c := range []struct {
		bit, x, at   int
		small, great byte
	}{{11, 6, 2, 's', 'S'}, {10, 3, 5, 's', 'S'}, {9, 0, 8, 't', 'T'}} {
		if bit(c.bit) && bit(c.x) {
			text[c.at] = c.small
		} else if bit(c.bit) {
			text[c.at] = c.great
		}
	}
	return string(text)
}

// P10.2 and P10.3: all modes, each of which has a text of its own.
func TestEveryMode(t *testing.T) {
	seen := map[string]bool{}
	for mode := range 4096 {
		s := textByWords(mode)
		if seen[s] {
			t.Errorf("%q is the text of two modes", s)
		}
		seen[s] = true
		wantText(t, mode, s, api.OK)
		wantParse(t, s, mode, api.OK)
	}
}

// P10.2
func TestTextRange(t *testing.T) {
	for _, mode := range wrongModes {
		wantText(t, mode, "", api.ErrRange)
	}
}

// P10.3: the size counts first, whatever the bytes are.
func TestParseSize(t *testing.T) {
	for n := range 40 {
		if n == 9 {
			continue
		}
		for _, s := range []string{"-", "r", "x", " ", "\x00", "\xff"} {
			wantParse(t, strings.Repeat(s, n), 0, api.ErrSize)
		}
		wantParse(t, strings.Repeat("rwx", 14)[:n], 0, api.ErrSize)
	}
	for _, s := range []string{
		"", "-rwxr-xr-x", "drwxr-xr-x", "rwxr-xr-x ", " rwxr-xr-x", "rwxr-xr-x\x00", "rwxr-xr-x\n", "rwxr-xr-", "755", "0755",
		"u=rwx,g=rx", "éwxr-xr-x", "rwxr-xr-é", strings.Repeat("é", 9), xs(5000),
	} {
		wantParse(t, s, 0, api.ErrSize)
	}
	// Nine bytes, but fewer characters.
	wantParse(t, "éwxr-xr-", 0, api.ErrForm)
	wantParse(t, "日本語", 0, api.ErrForm)
}

// P10.3
func TestParseForm(t *testing.T) {
	for _, s := range []string{
		"         ", "\x00\x00\x00\x00\x00\x00\x00\x00\x00", "xxxxxxxxx", "rrrrrrrrr", "wwwwwwwww", "sssssssss", "000000755", "111101101",
		"RWXR-XR-X", "Rwxr-xr-x", "rWxr-xr-x", "rwXr-xr-x", "xwrxwrxwr", "wrxwrxwrx", "rxwr-xr-x", "rwx-r-x-r", "xrwrwxrwx",
		"rwtr-xr-x", "rwTr-xr-x", "rwxr-tr-x", "rwxr-Tr-x", "rwxr-xr-s", "rwxr-xr-S", "swxr-xr-x", "rsxr-xr-x", "twxr-xr-x", "rwxr-xt-x",
		"rwxr-xrtx", "rwxsr-r-x", "rwxr-xr_x", "rwxr xr x", "rwxr-xr-+", "rwlr-xr-x", "drwxr-xr-", "-rwxr-xr-", "rwxr-xr-\n", "rwxr-xr-\x00",
	} {
		wantParse(t, s, 0, api.ErrForm)
	}
}

// modesByWords are all texts and their modes.
func modesByWords() map[string]int {
	modes := map[string]int{}
	for mode := range 4096 {
		modes[textByWords(mode)] = mode
	}
	return modes
}

// wantParseByWords takes a string of nine bytes.
func wantParseByWords(t *testing.T, modes map[string]int, s string) {
	t.Helper()
	if mode, found := modes[s]; found {
		wantParse(t, s, mode, api.OK)
	} else {
		wantParse(t, s, 0, api.ErrForm)
	}
}

// P10.3: every byte in place of every byte of a text.
func TestParseEveryByte(t *testing.T) {
	modes := modesByWords()
	for _, c := range texts {
		for at := range 9 {
			for b := range 256 {
				wantParseByWords(t, modes, c.text[:at]+string([]byte{byte(b)})+c.text[at+1:])
			}
		}
	}
}

// P10.3: three characters of every kind, for the owner, the group and all others.
func TestParseEveryThree(t *testing.T) {
	const alphabet = "-rwxsStTRWX"
	modes := modesByWords()
	for _, c := range texts {
		for at := 0; at < 9; at += 3 {
			for i := range len(alphabet) * len(alphabet) * len(alphabet) {
				a, b, d := alphabet[i%11], alphabet[i/11%11], alphabet[i/121]
				wantParseByWords(t, modes, c.text[:at]+string([]byte{a, b, d})+c.text[at+3:])
			}
		}
	}
}
