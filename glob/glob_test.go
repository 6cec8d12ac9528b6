package glob

import (
	"fmt"
	"math/rand"
	"regexp"
	"strings"
	"testing"
	"time"

	"creel/api"
	"creel/path"
)

// short are all strings of at most n bytes of an alphabet.
func short(alphabet string, n int) []string {
	all := []string{""}
	begin := 0
	for range n {
		end := len(all)
		for _, s := range all[begin:end] {
			for i := range len(alphabet) {
				all = append(all, s+alphabet[i:i+1])
			}
		}
		begin = end
	}
	return all
}

// text of one byte, whatever the byte is.
func text(b int) string { return string([]byte{byte(b)}) }

func wantCheck(t *testing.T, p string, want api.Errno) {
	t.Helper()
	if err := Check(p); err != want {
		t.Errorf("Check(%.60q) = %d, want %d", p, err, want)
	}
}

func wantFits(t *testing.T, p, s string, want bool) {
	t.Helper()
	if got, err := Fits(p, s); got != want || err != api.OK {
		t.Errorf("Fits(%.60q, %.60q) = %t, %d, want %t, 0", p, s, got, err, want)
	}
}

func wantError(t *testing.T, p, s string, want api.Errno) {
	t.Helper()
	if got, err := Fits(p, s); got || err != want {
		t.Errorf("Fits(%.60q, %.60q) = %t, %d, want false, %d", p, s, got, err, want)
	}
}

// wantAll tells which paths fit a pattern, and which ones do not.
func wantAll(t *testing.T, p string, fit, unfit []string) {
	t.Helper()
	for _, s := range fit {
		wantFits(t, p, s, true)
	}
	for _, s := range unfit {
		wantFits(t, p, s, false)
	}
}

// goodPart has no slash, and an end behind each of its sets. (A "!" is no first member of a set.)
var goodPart = regexp.MustCompile(`(?s)^(?:[^\[]|\[(?:!.|[^!])[^\]]*\])+$`)

// checkByWords is Check by the words of the promise.
func checkByWords(p string) api.Errno {
	if p == "" || len(p) > 400 {
		return api.ErrSize
	}
	for _, part := range strings.Split(p, "/") {
		if part == "" {
			return api.ErrPath
		}
		if !goodPart.MatchString(part) {
			return api.ErrForm
		}
	}
	return api.OK
}

var (
	token  = regexp.MustCompile(`(?s)\[(?:!.|[^!])[^\]]*\]|.`)
	member = regexp.MustCompile(`(?s)(.)-(.)|.`)
)

// isIn tells whether a byte is one that a set of ASCII (with its brackets) matches.
func isIn(set string, b byte) bool {
	inner := set[1 : len(set)-1]
	without := inner[0] == '!'
	if without {
		inner = inner[1:]
	}
	for _, m := range member.FindAllString(inner, -1) {
		if m[0] <= b && b <= m[len(m)-1] {
			return !without
		}
	}
	return without
}

// class is a set as a regular expression.
func class(set string) string {
	l := ""
	for b := 1; b < 128; b++ {
		if b != '/' && isIn(set, byte(b)) {
			l += fmt.Sprintf(`\x%02x`, b)
		}
	}
	if l == "" {
		return `[^\x00-\x{10FFFF}]`
	}
	return "[" + l + "]"
}

// expression is a valid pattern of ASCII as a regular expression for paths with a slash behind each part.
func expression(p string) *regexp.Regexp {
	e := "^"
	for _, part := range strings.Split(p, "/") {
		if part == "**" {
			e += "(?:[^/]+/)*"
			continue
		}
		for _, x := range token.FindAllString(part, -1) {
			switch {
			case x == "*":
				e += "[^/]*"
			case x == "?":
				e += "[^/]"
			case len(x) > 1:
				e += class(x)
			default:
				e += regexp.QuoteMeta(x)
			}
		}
		e += "/"
	}
	return regexp.MustCompile("(?s)" + e + "$")
}

// wantByWords compares Check, and Fits for each of the valid paths, with regular expressions.
func wantByWords(t *testing.T, p string, paths []string) {
	t.Helper()
	wanted := checkByWords(p)
	wantCheck(t, p, wanted)
	if wanted != api.OK {
		for _, s := range paths {
			wantError(t, p, s, wanted)
		}
		return
	}
	e := expression(p)
	for _, s := range paths {
		wantFits(t, p, s, e.MatchString(s+"/"))
	}
}

// validPaths are those of a list.
func validPaths(l []string) []string {
	var valid []string
	for _, s := range l {
		if path.Check(s) == api.OK {
			valid = append(valid, s)
		}
	}
	return valid
}

// within fails if a function has not ended after some seconds.
func within(t *testing.T, f func()) {
	t.Helper()
	done := make(chan bool)
	go func() {
		defer close(done)
		f()
	}()
	select {
	case <-done:
	case <-time.After(20 * time.Second):
		t.Fatal("no end within 20 seconds")
	}
}

// P13.1
func TestCheck(t *testing.T) {
	for _, p := range []string{
		"a", "a/b", "*", "**", "***", "?", "a*", "*a", "**a", "a**", "a/**/*.go", "**/**", "?/*", ".", "..", "../.", "-", "!", "]", "a]", "]]", "]a/b]",
		"[a]", "[ab]", "[a-c]", "[c-a]", "[!a]", "[!a-c]", "[]]", "[]a]", "[!]]", "[!]a]", "[[]", "[[a]", "[![]", "[!!]", "[-]", "[--]", "[---]", "[a-]",
		"[-a]", "[]-]", "[]-a]", "[!-]", "[*]", "[?]", "[**]", "[a]]", "[a][b]", "x[a]y[!b]z", "[a]/[b]", "a/[]]/**", `\`, `\a`, `[\]`, "\x00", "[\x00]",
		"\xff", "[\x80-\xff]", "é", "[é]", "a\nb", strings.Repeat("x", 400), strings.Repeat("*", 400), "[" + strings.Repeat("a", 398) + "]",
		"a" + strings.Repeat("/a", 199) + "b", strings.Repeat("é", 200), "[" + strings.Repeat("[", 398) + "]", strings.Repeat("[a]", 133) + "b",
	} {
		wantCheck(t, p, api.OK)
	}
}

// P13.1: the size counts first, in bytes, whatever they are.
func TestCheckSize(t *testing.T) {
	for _, p := range []string{
		"", strings.Repeat("x", 401), strings.Repeat("/", 401), strings.Repeat("[", 401), strings.Repeat("*", 5000), strings.Repeat("é", 201),
		"[" + strings.Repeat("a", 399) + "]", strings.Repeat("\x00", 401), "a" + strings.Repeat("/a", 200),
	} {
		wantCheck(t, p, api.ErrSize)
	}
	for n := 1; n <= 410; n++ {
		want := api.OK
		if n > api.MaxPath {
			want = api.ErrSize
		}
		wantCheck(t, strings.Repeat("x", n), want)
	}
}

// P13.1: an empty part at any place.
func TestCheckPath(t *testing.T) {
	for _, p := range []string{
		"/", "//", "/a", "a/", "a//b", "//a", "a//", "a/b/", "/a/b", "**/", "/**", "**//**", "[a]/", "/[a]", "]/", strings.Repeat("/", 400),
		strings.Repeat("x", 399) + "/", "/" + strings.Repeat("x", 399),
	} {
		wantCheck(t, p, api.ErrPath)
	}
}

// P13.1: a set ends within its part, and not with its first byte.
func TestCheckForm(t *testing.T) {
	for _, p := range []string{
		"[", "[]", "[!", "[!]", "[a", "[!a", "[a-", "[a-z", "[[", "[!!", "[]a", "[]-", "[]-a", "[!]a", "[!]-", "a[", "a[b", "a[]", "*[", "**[", "?[!]",
		"[a][", "[a][b", "[a]b[]", "[a]]b[", "[/]", "[a/]", "[/a]", "[a/b]", "[]/]", "[!/]", "[!a/]", "[.-/]", "[a]/[", "a/[b", "a/[]", "**/[!]", "[/", "]/[",
		"[" + strings.Repeat("a", 399), strings.Repeat("[", 400), strings.Repeat("x", 399) + "[", `[\`, "[\x00", "[é",
	} {
		wantCheck(t, p, api.ErrForm)
	}
}

// P13.1: the first part that is wrong counts.
func TestCheckOrder(t *testing.T) {
	for p, want := range map[string]api.Errno{
		"/[": api.ErrPath, "[/": api.ErrForm, "[//a": api.ErrForm, "//[": api.ErrPath, "a//[": api.ErrPath, "a/[//": api.ErrForm, "a/[]/": api.ErrForm,
		"a//[]": api.ErrPath, "[a]//[": api.ErrPath, "[/]//": api.ErrForm, "/[]]": api.ErrPath, "[]]/": api.ErrPath, "[!]/": api.ErrForm,
	} {
		wantCheck(t, p, want)
	}
}

// P13.1: all patterns of few bytes, by the words of the promise.
func TestCheckShort(t *testing.T) {
	for _, p := range short("/[]!a", 7) {
		wantCheck(t, p, checkByWords(p))
	}
}

// P13.2: the example of the chapter.
func TestFitsExample(t *testing.T) {
	wantAll(t, "a/**/*.go", []string{"a/b.go", "a/c/d/b.go", "a/.go", "a/c/.go", "a/b.go/b.go"},
		[]string{"a/b.c", "a", "a/b", "b.go", "b/b.go", "a/b.go/c", "a/bgo", "a/b.gob", "a.go", "A/b.go", "a/b.GO"})
}

// P13.2: bytes that match themselves, and the whole path.
func TestFitsPlain(t *testing.T) {
	wantAll(t, "a", []string{"a"}, []string{"b", "A", "aa", "ab", "ba", "a/a", "a/b", "b/a", "*"})
	wantAll(t, "ab/c", []string{"ab/c"}, []string{"ab", "c", "a/bc", "abc", "ab/c/d", "d/ab/c", "ab/cc", "ab/d", "a/b/c"})
	wantAll(t, `\*`, []string{`\`, `\a`, `\*`}, []string{"*", "a"})
	wantAll(t, `a\b`, []string{`a\b`}, []string{"ab", "a/b"})
	wantAll(t, "]", []string{"]"}, []string{"a", "]]", "["})
	wantAll(t, "a!-", []string{"a!-"}, []string{"a", "a!", "a-"})
	wantAll(t, "é", []string{"é"}, []string{"e", "\xc3", "\xa9", "É"})
	wantAll(t, ".", nil, []string{"a", "...", ".a"})
	wantAll(t, "..", nil, []string{"aa", "..."})
	wantAll(t, "a\x00", nil, []string{"a", "aa"})
	wantAll(t, strings.Repeat("x", 400), []string{strings.Repeat("x", 400)}, []string{strings.Repeat("x", 399), "x"})
}

// P13.2: every byte matches itself alone.
func TestFitsEveryByte(t *testing.T) {
	for p := range 256 {
		if strings.IndexByte("*?[/", byte(p)) >= 0 {
			continue
		}
		for s := 1; s < 256; s++ {
			if s != '/' && s != '.' {
				wantFits(t, text(p), text(s), p == s)
				wantFits(t, "a"+text(p), "a"+text(s), p == s)
			}
		}
	}
}

// P13.2: stars within one part.
func TestFitsStar(t *testing.T) {
	wantAll(t, "*", []string{"a", "abc", "...", "*", "\xff", "é", strings.Repeat("x", 400)}, []string{"a/b", "a/b/c"})
	wantAll(t, "a*", []string{"a", "ab", "abc", "a*", "aa"}, []string{"b", "ba", "a/b", "ab/c"})
	wantAll(t, "*a", []string{"a", "ba", "aa", "aba"}, []string{"b", "ab", "b/a"})
	wantAll(t, "a*b", []string{"ab", "abb", "aab", "acb", "ab-ab"}, []string{"a", "b", "ba", "abc", "a/b", "ac/b"})
	wantAll(t, "*.txt", []string{"a.txt", ".txt", "a.b.txt", ".txt.txt"}, []string{"a.txt.c", "atxt", "a/b.txt", "txt"})
	wantAll(t, "*a*", []string{"a", "ba", "ab", "bab"}, []string{"b", "bb", "b/a"})
	wantAll(t, "*ab*ab", []string{"abab", "abcab", "ababab", "cabcab", "aababb-ab"}, []string{"ab", "aba", "abb", "abaab-"})
	wantAll(t, "*/b", []string{"a/b", "b/b"}, []string{"b", "a/c/b", "a/b/b"})
	wantAll(t, "a/*", []string{"a/b", "a/abc"}, []string{"a", "a/b/c", "b/b"})
	wantAll(t, "*/*", []string{"a/b", "aa/bb"}, []string{"a", "a/b/c"})
	wantAll(t, "a/*/c", []string{"a/b/c", "a/c/c"}, []string{"a/c", "a/b/b/c", "a/b"})
}

// P13.2: "?" matches a byte, not a letter of more bytes, and not the end of a part.
func TestFitsAny(t *testing.T) {
	wantAll(t, "?", []string{"a", "?", "*", "\x01", "\xff"}, []string{"ab", "a/b", "é", "abc"})
	wantAll(t, "??", []string{"ab", "é"}, []string{"a", "abc", "a/b", "éa"})
	wantAll(t, "a?c", []string{"abc", "a?c", "acc"}, []string{"ac", "a/c", "abbc", "aéc"})
	wantAll(t, "?*", []string{"a", "ab", "abc"}, []string{"a/b"})
	wantAll(t, "*??", []string{"ab", "abc", "é"}, []string{"a", "a/b", "aa/b"})
	wantAll(t, "?/?", []string{"a/b"}, []string{"a", "abc", "aa/b", "a/bb", "a/b/c"})
	for b := 1; b < 256; b++ {
		if b != '/' {
			wantFits(t, "a?", "a"+text(b), true)
		}
	}
}

// P13.2: "**" is a part that matches parts, from none to all.
func TestFitsParts(t *testing.T) {
	wantAll(t, "**", []string{"a", "a/b", "a/b/c", "**", "a" + strings.Repeat("/a", 199)}, nil)
	wantAll(t, "a/**", []string{"a", "a/b", "a/b/c", "a/a"}, []string{"b", "ab", "ab/c", "b/a"})
	wantAll(t, "**/a", []string{"a", "b/a", "b/c/a", "a/a"}, []string{"b", "a/b", "ba", "b/ba"})
	wantAll(t, "a/**/b", []string{"a/b", "a/c/b", "a/c/d/b", "a/b/b", "a/a/b"}, []string{"a", "b", "ab", "a/b/c", "c/a/b", "a/cb"})
	wantAll(t, "**/a/**", []string{"a", "a/b", "b/a", "b/a/c", "a/a", "b/c/a/d/e"}, []string{"b", "b/c", "ab/c", "b/aa"})
	wantAll(t, "**/**", []string{"a", "a/b", "a/b/c"}, nil)
	wantAll(t, "a/**/**/b", []string{"a/b", "a/c/b", "a/c/d/b"}, []string{"a", "b", "a/c"})
	wantAll(t, "**/*", []string{"a", "a/b", "a/b/c"}, nil)
	wantAll(t, "**/*/*", []string{"a/b", "a/b/c"}, []string{"a"})
	wantAll(t, "*/**", []string{"a", "a/b", "a/b/c"}, nil)
	wantAll(t, "**/?", []string{"a", "bb/a", "c/d/e"}, []string{"ab", "a/bc"})
	wantAll(t, "**/a/b", []string{"a/b", "a/a/b", "a/b/a/b", "c/a/b"}, []string{"b", "a", "a/b/a", "a/c/b"})
	wantAll(t, "a/**/b/**/c", []string{"a/b/c", "a/x/b/y/c", "a/b/b/c/c", "a/c/b/b/x/c"}, []string{"a/c", "a/b", "a/c/b", "b/c"})
}

// P13.2: stars beside other bytes, or three of them, stay within their part.
func TestFitsStarsTogether(t *testing.T) {
	wantAll(t, "***", []string{"a", "abc", "..."}, []string{"a/b"})
	wantAll(t, "****", []string{"a", "abc"}, []string{"a/b"})
	wantAll(t, "a**", []string{"a", "ab", "abc"}, []string{"a/b", "b"})
	wantAll(t, "**a", []string{"a", "ba", "bca"}, []string{"b/a", "ab"})
	wantAll(t, "a**b", []string{"ab", "acb"}, []string{"a/b", "a/c/b"})
	wantAll(t, "**?", []string{"a", "ab"}, []string{"a/b"})
	wantAll(t, "[*]*", []string{"*", "**", "*a"}, []string{"a", "a/b"})
	wantAll(t, "***/b", []string{"a/b"}, []string{"b", "a/a/b"})
}

// P13.2: sets of single bytes.
func TestFitsSet(t *testing.T) {
	wantAll(t, "[a]", []string{"a"}, []string{"b", "A", "aa", "[a]", "a/a", "[", "]"})
	wantAll(t, "[abc]", []string{"a", "b", "c"}, []string{"d", "ab", "abc", "-"})
	wantAll(t, "[aa]", []string{"a"}, []string{"aa", "b"})
	wantAll(t, "[ab][cd]", []string{"ac", "ad", "bc", "bd"}, []string{"ab", "cd", "a", "ca", "acd"})
	wantAll(t, "x[ab]y", []string{"xay", "xby"}, []string{"xy", "xcy", "xaby", "ay"})
	wantAll(t, "[!a]", []string{"b", "A", "!", "]", "\xff"}, []string{"a", "bb", "b/b", "é"})
	wantAll(t, "[!a]*", []string{"b", "ba", "b-a"}, []string{"a", "ab"})
	wantAll(t, "[!ab]", []string{"c", "!"}, []string{"a", "b"})
	wantAll(t, "[é]", []string{"\xc3", "\xa9"}, []string{"é", "e", "\xc2"})
	wantAll(t, "[a]/[!a]", []string{"a/b"}, []string{"a/a", "b/b", "a", "b"})
	wantAll(t, "[\x00a]", []string{"a"}, []string{"b"})
}

// P13.2: what stands for something else outside of a set stands for itself in it.
func TestFitsSetSigns(t *testing.T) {
	wantAll(t, "[*]", []string{"*"}, []string{"a", "**"})
	wantAll(t, "[**]", []string{"*"}, []string{"a", "**"})
	wantAll(t, "[?]", []string{"?"}, []string{"a"})
	wantAll(t, "[[]", []string{"["}, []string{"a", "]"})
	wantAll(t, "[[a]", []string{"[", "a"}, []string{"[a]", "]"})
	wantAll(t, "[[]]", []string{"[]"}, []string{"[", "]"})
	wantAll(t, "[![]", []string{"a", "]", "!"}, []string{"["})
	wantAll(t, `[\]`, []string{`\`}, []string{"]", "a"})
	wantAll(t, `[\]]`, []string{`\]`}, []string{`\`, "]"})
	wantAll(t, "[a!]", []string{"a", "!"}, []string{"b"})
	wantAll(t, "[!!]", []string{"a", "]", "-"}, []string{"!"})
	wantAll(t, "[!!a]", []string{"b"}, []string{"!", "a"})
	wantAll(t, "[^a]", []string{"^", "a"}, []string{"b"})
}

// P13.2: the first byte of a set belongs to it, even if it is "]"; the next "]" ends it.
func TestFitsSetEnd(t *testing.T) {
	wantAll(t, "[]]", []string{"]"}, []string{"a", "[", "]]", "[]"})
	wantAll(t, "[]a]", []string{"]", "a"}, []string{"b", "]a]", "]a"})
	wantAll(t, "[a]]", []string{"a]"}, []string{"a", "]", "]]"})
	wantAll(t, "[]]]", []string{"]]"}, []string{"]", "]]]"})
	wantAll(t, "[]]a]", []string{"]a]"}, []string{"]", "a"})
	wantAll(t, "[!]]", []string{"a", "!", "["}, []string{"]", "aa"})
	wantAll(t, "[!]a]", []string{"b", "!"}, []string{"]", "a"})
	wantAll(t, "[!a]]", []string{"b]", "]]"}, []string{"a]", "b", "]"})
	wantAll(t, "[!]]]", []string{"a]"}, []string{"]]", "a", "]"})
	wantAll(t, "[[a]]", []string{"a]", "[]"}, []string{"a", "]"})
}

// P13.2: ranges in sets.
func TestFitsRange(t *testing.T) {
	wantAll(t, "[a-c]", []string{"a", "b", "c"}, []string{"d", "`", "-", "A", "ab"})
	wantAll(t, "[a-c]x", []string{"ax", "bx", "cx"}, []string{"dx", "b", "x", "-x"})
	wantAll(t, "[a-a]", []string{"a"}, []string{"b", "-"})
	wantAll(t, "[c-a]", nil, []string{"a", "b", "c", "-"})
	wantAll(t, "[c-ax]", []string{"x"}, []string{"a", "b", "c", "-"})
	wantAll(t, "[!c-a]", []string{"a", "b", "c", "-", "\xff"}, []string{"ab"})
	wantAll(t, "[!a-c]", []string{"d", "-", "!"}, []string{"a", "b", "c"})
	wantAll(t, "[a-cx-z]", []string{"a", "b", "c", "x", "y", "z"}, []string{"d", "w", "-"})
	wantAll(t, "[a-c0]", []string{"a", "b", "c", "0"}, []string{"-", "d", "1"})
	wantAll(t, "[0a-c]", []string{"a", "b", "c", "0"}, []string{"-", "d", "1"})
	wantAll(t, "[.-0]", []string{"0"}, []string{"-", "1"})
	wantAll(t, "a[.-0]", []string{"a.", "a0"}, []string{"a-", "a/0", "a/b", "a"})
	wantAll(t, "[ -~]", []string{"a", " ", "~", "-"}, []string{"\x7f", "\x1f"})
	wantAll(t, "[\x80-\xff]", []string{"\x80", "\xff", "\xc3"}, []string{"\x7f", "a", "é"})
	wantAll(t, "[\x00-\xff]", []string{"a", "\x01", "\xff", "]"}, []string{"aa"})
	wantAll(t, "[!\x00-\xff]", nil, []string{"a", "\x01", "\xff"})
}

// P13.2: a "-" that stands for itself, or that begins or ends a range.
func TestFitsRangeSigns(t *testing.T) {
	wantAll(t, "[-]", []string{"-"}, []string{"a"})
	wantAll(t, "[--]", []string{"-"}, []string{"a", "--"})
	wantAll(t, "[---]", []string{"-"}, []string{"a", ","})
	wantAll(t, "[!-]", []string{"a", "!"}, []string{"-"})
	wantAll(t, "[a-]", []string{"a", "-"}, []string{"b", "]"})
	wantAll(t, "[-a]", []string{"a", "-"}, []string{"b", "A", "]", "0"})
	wantAll(t, "[!-a]", []string{"b", "A", "!"}, []string{"a", "-"})
	wantAll(t, "[--0]", []string{"-", "0"}, []string{"1", ","})
	wantAll(t, "[!--0]", []string{"1", ","}, []string{"-", "0"})
	wantAll(t, "[+--]", []string{"+", ",", "-"}, []string{"*", "0"})
	wantAll(t, "[a--]", nil, []string{"a", "-", "A"})
	wantAll(t, "[a-c-e]", []string{"a", "b", "c", "-", "e"}, []string{"d"})
	wantAll(t, "[a-c--]", []string{"a", "b", "c", "-"}, []string{"d", "A"})
	wantAll(t, "[a-c-]", []string{"a", "b", "c", "-"}, []string{"d", "]"})
	wantAll(t, "[ab-d]", []string{"a", "b", "c", "d"}, []string{"-", "e"})
	wantAll(t, "[a-c-e-g]", []string{"a", "b", "c", "-", "e", "f", "g"}, []string{"d", "h"})
	wantAll(t, "[a-b-c-d]", []string{"a", "b", "-", "c", "d"}, []string{"e", "A"})
	wantAll(t, "[a-]]", []string{"a]", "-]"}, []string{"a", "]", "b]", "^"})
	wantAll(t, "[]-]", []string{"]", "-"}, []string{"a", "^"})
	wantAll(t, "[]-a]", []string{"]", "^", "_", "`", "a"}, []string{"-", "b", `\`})
	wantAll(t, "[!]-a]", []string{"-", "b", `\`}, []string{"]", "^", "_", "`", "a"})
	wantAll(t, "[!-!]", []string{"a", "0"}, []string{"-", "!"})
	wantAll(t, "[+-!]", nil, []string{"+", "-", "!", "&"})
	wantAll(t, "[!!-+]", []string{",", "-", " "}, []string{"!", "&", "+"})
	wantAll(t, "[[-^]", []string{"[", `\`, "]", "^"}, []string{"Z", "_", "-"})
}

// P13.2: ranges between many pairs of bytes, and what is outside of them, up to the greatest byte.
func TestFitsEveryRange(t *testing.T) {
	ends := []int{0, 1, 31, ' ', '-', '.', '0', '9', 'A', 'Z', '[', 'a', 'z', 127, 128, 200, 254, 255}
	for _, low := range ends {
		for _, high := range ends {
			p := "[" + text(low) + "-" + text(high) + "]"
			without := "[!" + p[1:]
			for b := 1; b < 256; b++ {
				if b != '/' {
					in := low <= b && b <= high
					wantFits(t, "x"+p, "x"+text(b), in)
					wantFits(t, "x"+without, "x"+text(b), !in)
				}
			}
		}
	}
}

// P13.2: all sets of few members, by the words of the chapter; the bytes behind a "]" are behind the set.
func TestFitsShortSets(t *testing.T) {
	paths := append(short("]!-abc", 2)[1:], "b]]", "a-]", "-a]", "]a]", "[", "[]")
	for _, inner := range short("]!-abc", 5) {
		wantByWords(t, "["+inner+"]", paths)
	}
}

// P13.2: all patterns of few bytes with all paths of few bytes, by the words of the chapter.
func TestFitsShort(t *testing.T) {
	paths := validPaths(short("ab/", 5))
	for _, p := range short("*?a/", 6) {
		wantByWords(t, p, paths)
	}
	for _, p := range short("*a[]/", 5) {
		wantByWords(t, p, validPaths(short("a[]/", 3)))
	}
}

// randomOf joins up to n of the pieces.
func randomOf(r *rand.Rand, n int, pieces []string) string {
	s := ""
	for range 1 + r.Intn(n) {
		s += pieces[r.Intn(len(pieces))]
	}
	return s
}

// P13.2: longer patterns and paths, by the words of the chapter.
func TestFitsRandom(t *testing.T) {
	r := rand.New(rand.NewSource(13))
	inPattern := []string{"a", "b", "*", "*", "?", "[ab]", "[!a]", "[a-b]", "[]-a]", "/", "/", "/**/", "**/", "/**", "/*/", "a/", "/b"}
	for range 3000 {
		p := randomOf(r, 14, inPattern)
		var paths []string
		for range 30 {
			paths = append(paths, randomOf(r, 24, []string{"a", "a", "b", "b", "]", "a/", "b/", "ab/"}))
		}
		wantByWords(t, p, validPaths(paths))
	}
}

// P13.2: the errors of Check come first, then those of path.Check, whatever would match.
func TestFitsErrors(t *testing.T) {
	long := strings.Repeat("x", 401)
	for _, c := range []struct {
		p, s string
		want api.Errno
	}{
		{"", "a", api.ErrSize},
		{long, "a", api.ErrSize},
		{long, long, api.ErrSize},
		{"a//b", "a/b", api.ErrPath},
		{"/", "a", api.ErrPath},
		{"[", "[", api.ErrForm},
		{"[]", "a", api.ErrForm},
		{"[/]", "a", api.ErrForm},
		{"[!]", "a", api.ErrForm},
		{"a/[", "b", api.ErrForm},
		{"**", "", api.ErrSize},
		{"a", "", api.ErrSize},
		{"*", long, api.ErrSize},
		{"**", "\x00", api.ErrForm},
		{"a\x00", "a\x00", api.ErrForm},
		{"?", "\x00", api.ErrForm},
		{"**", "/", api.ErrPath},
		{"**", "a/", api.ErrPath},
		{"**", "/a", api.ErrPath},
		{"a/*/b", "a//b", api.ErrPath},
		{".", ".", api.ErrPath},
		{"..", "..", api.ErrPath},
		{"*", "..", api.ErrPath},
		{"[.-0]", ".", api.ErrPath},
		{"a/../b", "a/../b", api.ErrPath},
		{"", "\x00", api.ErrSize},
		{"", "/", api.ErrSize},
		{"//", "", api.ErrPath},
		{"/", "\x00", api.ErrPath},
		{"[", "", api.ErrForm},
		{"[", "/", api.ErrForm},
	} {
		wantError(t, c.p, c.s, c.want)
	}
}

// P13.2: all pairs of few bytes have the error of Check, or else that of path.Check.
func TestFitsErrorsShort(t *testing.T) {
	paths := short("a/.\x00", 3)
	for _, p := range short("*[]/", 4) {
		for _, s := range paths {
			wanted := Check(p)
			if wanted == api.OK {
				wanted = path.Check(s)
			}
			if wanted != api.OK {
				wantError(t, p, s, wanted)
			} else if _, err := Fits(p, s); err != api.OK {
				t.Errorf("Fits(%q, %q): %d, want 0", p, s, err)
			}
		}
	}
}

// P13.2: many stars over bytes and over parts, with a mismatch at the end, take no exponential time.
func TestFitsManyStars(t *testing.T) {
	within(t, func() {
		wantAll(t, strings.Repeat("a*", 199)+"b", []string{strings.Repeat("a", 399) + "b"}, []string{strings.Repeat("a", 400)})
		wantAll(t, strings.Repeat("*a", 199)+"b", []string{strings.Repeat("a", 399) + "b"}, []string{strings.Repeat("a", 400)})
		wantAll(t, strings.Repeat("*", 399)+"b", []string{strings.Repeat("a", 399) + "b"}, []string{strings.Repeat("a", 400)})
		wantAll(t, strings.Repeat("*?", 199)+"b", []string{strings.Repeat("a", 399) + "b"}, []string{strings.Repeat("a", 400)})
		wantAll(t, strings.Repeat("*[!b]", 79)+"b", []string{strings.Repeat("a", 399) + "b"}, []string{strings.Repeat("a", 400)})
		deep := strings.Repeat("a/", 199)
		wantAll(t, strings.Repeat("**/a/", 79)+"b", []string{deep + "b"}, []string{deep + "a"})
		wantAll(t, strings.Repeat("**/", 130)+"b", []string{deep + "b"}, []string{deep + "a"})
		wantAll(t, strings.Repeat("**/*/", 79)+"b", []string{deep + "b"}, []string{deep + "a"})
		wantAll(t, strings.Repeat("**/*a*/", 56)+"b", []string{deep + "b"}, []string{deep + "a"})
	})
}

// P13.2: all sizes of a path, and of a pattern, within the limit.
func TestFitsSizes(t *testing.T) {
	for n := 1; n <= api.MaxPath; n++ {
		s := strings.Repeat("x", n)
		wantFits(t, s, s, true)
		wantFits(t, strings.Repeat("?", n), s, true)
		wantFits(t, "*", s, true)
		if n > 1 {
			wantFits(t, s[1:], s, false)
			wantFits(t, strings.Repeat("?", n), s[1:], false)
		}
	}
}
