package head

import (
	"archive/tar"
	"bytes"
	"fmt"
	"math"
	"strings"
	"testing"
	"time"

	"creel/api"
	"creel/field"
	"creel/octal"
)

func wantSum(t *testing.T, s string, want int, wantErr api.Errno) {
	t.Helper()
	if n, err := Sum(s); n != want || err != wantErr {
		t.Errorf("Sum(%.600q) = %d, %d, want %d, %d", s, n, err, want, wantErr)
	}
}

// wantWrite wants the same error of Check.
func wantWrite(t *testing.T, h api.Head, want string, wantErr api.Errno) {
	t.Helper()
	if s, err := Write(h); s != want || err != wantErr {
		t.Errorf("Write(%.600q) = %.600q, %d, want %.600q, %d", fmt.Sprint(h), s, err, want, wantErr)
	}
	if err := Check(h); err != wantErr {
		t.Errorf("Check(%.600q) = %d, want %d", fmt.Sprint(h), err, wantErr)
	}
}

func wantRead(t *testing.T, s string, want api.Head, wantErr api.Errno) {
	t.Helper()
	if h, err := Read(s); h != want || err != wantErr {
		t.Errorf("Read(%.600q) = %q, %d, want %q, %d", s, fmt.Sprint(h), err, fmt.Sprint(want), wantErr)
	}
}

func xs(n int) string { return strings.Repeat("x", n) }

func zeros(n int) string { return strings.Repeat("\x00", n) }

// filled is a text behind which there are zero bytes, so that it fills a field.
func filled(s string, width int) string { return s + zeros(width-len(s)) }

// sumByWords does what P8.1 tells, byte by byte.
func sumByWords(s string) int {
	n := 0
	for i := range len(s) {
		if 148 <= i && i < 156 {
			n += 32
		} else {
			n += int(s[i])
		}
	}
	return n
}

// summed is a block with the checksum that it should have.
func summed(s string) string {
	return s[:148] + fmt.Sprintf("%06o\x00 ", sumByWords(s)) + s[156:]
}

// with is a block with another part at a place, and the checksum that it then should have.
func with(s string, at int, part string) string {
	return summed(s[:at] + part + s[at+len(part):])
}

// blockByWords is the block of a head whose fields have room, as the table of the chapter has it.
func blockByWords(h api.Head) string {
	return summed(filled(h.Name, 100) +
		fmt.Sprintf("%07o\x00%07o\x00%07o\x00%011o\x00%011o\x00", h.Mode, h.UID, h.GID, h.Size, h.Time) +
		xs(8) + string([]byte{h.Type}) + filled(h.Link, 100) + "ustar" + "\x00" + "00" +
		filled(h.User, 32) + filled(h.Group, 32) + "0000000\x00" + "0000000\x00" + filled(h.Prefix, 155) + zeros(12))
}

// full has something in every field.
func full() api.Head {
	return api.Head{Name: "name", Prefix: "prefix/of it", Link: "link", Mode: 0o644, UID: 1000, GID: 100, Size: 4096, Time: 1234567890, Type: '1', User: "user", Group: "group"}
}

// greatest has the greatest, or longest, in every field.
func greatest() api.Head {
	const small, great = 1<<21 - 1, 1<<33 - 1
	return api.Head{Name: strings.Repeat("n", 100), Prefix: strings.Repeat("p", 155), Link: strings.Repeat("l", 100), Mode: small, UID: small, GID: small, Size: great, Time: great, Type: 'x', User: strings.Repeat("u", 31), Group: strings.Repeat("g", 31)}
}

// rights are heads that can be written.
func rights() []api.Head {
	l := []api.Head{full(), greatest(), {Type: '0'}, {Name: "a", Type: '0'}, {User: xs(31), Type: '5'}, {Time: 1, Type: '5'}}
	for _, b := range []byte("0125x") {
		h := full()
		h.Type = b
		l = append(l, h)
	}
	for _, s := range []string{"", "a", "a/b", "/", ".", " ", "\n", "é", "\xff\x01", "0000000", "ustar", "a ", xs(30), strings.Repeat("\xff", 31)} {
		l = append(l, api.Head{Name: s, Prefix: s, Link: s, Type: '2', User: s, Group: s})
	}
	for _, s := range []string{xs(32), xs(99), xs(100), strings.Repeat("\xff", 100), strings.Repeat("é", 50)} {
		l = append(l, api.Head{Name: s, Type: '0'}, api.Head{Link: s, Type: '0'}, api.Head{Prefix: s, Type: '0'})
	}
	l = append(l, api.Head{Prefix: xs(101), Type: '0'}, api.Head{Prefix: xs(154), Type: '0'}, api.Head{Prefix: xs(155), Type: '0'})
	for bits := range 34 {
		small, great := 1<<min(bits, 21)-1, 1<<bits-1
		l = append(l, api.Head{Mode: small, Type: '0'}, api.Head{UID: small, Type: '0'}, api.Head{GID: small, Type: '0'})
		l = append(l, api.Head{Size: great, Type: '0'}, api.Head{Time: great, Type: '0'})
		l = append(l, api.Head{Mode: small, UID: small / 2, GID: small / 3, Size: great, Time: great / 5, Type: '5'})
	}
	return l
}

// P8.1
func TestSum(t *testing.T) {
	wantSum(t, zeros(512), 256, api.OK)
	wantSum(t, strings.Repeat(" ", 512), 512*32, api.OK)
	wantSum(t, xs(512), 504*'x'+256, api.OK)
	wantSum(t, strings.Repeat("\xff", 512), 504*255+256, api.OK)
	wantSum(t, strings.Repeat("é", 256), 252*(0xc3+0xa9)+256, api.OK)
	for _, h := range rights() {
		s := blockByWords(h)
		wantSum(t, s, sumByWords(s), api.OK)
	}
}

// P8.1: every byte at every place, of which those of the checksum do not count.
func TestSumEveryByte(t *testing.T) {
	for i := range 512 {
		for b := range 256 {
			s := []byte(zeros(512))
			s[i] = byte(b)
			want := 256 + b
			if i >= 148 && i <= 155 {
				want = 256
			}
			wantSum(t, string(s), want, api.OK)
		}
	}
}

// P8.1: what is no block.
func TestSumErrors(t *testing.T) {
	for n := range 1100 {
		if n != 512 {
			wantSum(t, zeros(n), 0, api.ErrSize)
			wantSum(t, xs(n), 0, api.ErrSize)
		}
	}
	wantSum(t, strings.Repeat("é", 512), 0, api.ErrSize)
	wantSum(t, blockByWords(full())+blockByWords(full()), 0, api.ErrSize)
	wantSum(t, xs(1<<20), 0, api.ErrSize)
}

// P8.2 and P8.3: a block that is written out here.
func TestWrite(t *testing.T) {
	wantWrite(t, api.Head{Name: "a", Type: '0'}, "a"+zeros(99)+
		"0000000\x000000000\x000000000\x0000000000000\x0000000000000\x00"+"007320\x00 "+"0"+
		zeros(100)+"ustar\x00"+"00"+zeros(32)+zeros(32)+"0000000\x000000000\x00"+zeros(155)+zeros(12), api.OK)
	wantWrite(t, full(), "name"+zeros(96)+
		"0000644\x000001750\x000000144\x0000000010000\x0011145401322\x00"+"015167\x00 "+"1"+
		"link"+zeros(96)+"ustar\x00"+"00"+"user"+zeros(28)+"group"+zeros(27)+"0000000\x000000000\x00"+
		"prefix/of it"+zeros(143)+zeros(12), api.OK)
	wantWrite(t, greatest(), strings.Repeat("n", 100)+
		"7777777\x007777777\x007777777\x0077777777777\x0077777777777\x00"+"141600\x00 "+"x"+
		strings.Repeat("l", 100)+"ustar\x00"+"00"+strings.Repeat("u", 31)+"\x00"+strings.Repeat("g", 31)+"\x00"+"0000000\x000000000\x00"+
		strings.Repeat("p", 155)+zeros(12), api.OK)
}

// P8.2 to P8.4: blocks by the table of the chapter, which are read again.
func TestRights(t *testing.T) {
	for _, h := range rights() {
		s := blockByWords(h)
		if len(s) != 512 {
			t.Fatalf("%d bytes: %q", len(s), s)
		}
		wantWrite(t, h, s, api.OK)
		wantRead(t, s, h, api.OK)
	}
}

// P8.2 to P8.4: every length of the texts.
func TestEveryLength(t *testing.T) {
	for n := range 600 {
		for _, s := range []string{strings.Repeat("y", n), strings.Repeat("\xff", n)} {
			wantLength(t, api.Head{Name: s, Type: '0'}, n <= 100)
			wantLength(t, api.Head{Link: s, Type: '0'}, n <= 100)
			wantLength(t, api.Head{Prefix: s, Type: '0'}, n <= 155)
			wantLength(t, api.Head{User: s, Type: '0'}, n <= 31)
			wantLength(t, api.Head{Group: s, Type: '0'}, n <= 31)
		}
	}
}

func wantLength(t *testing.T, h api.Head, hasRoom bool) {
	t.Helper()
	if !hasRoom {
		wantWrite(t, h, "", api.ErrSize)
		return
	}
	s := blockByWords(h)
	wantWrite(t, h, s, api.OK)
	wantRead(t, s, h, api.OK)
}

// P8.2 to P8.4: every Type, of which five may be.
func TestEveryType(t *testing.T) {
	for b := range 256 {
		h := full()
		h.Type = byte(b)
		s := blockByWords(h)
		if strings.ContainsRune("0125x", rune(b)) {
			wantWrite(t, h, s, api.OK)
			wantRead(t, s, h, api.OK)
			continue
		}
		wantWrite(t, h, "", api.ErrKind)
		wantRead(t, s, api.Head{}, api.ErrForm)
	}
}

// wrong is something that makes a head one that may not be.
type wrong struct {
	what string
	put  func(h *api.Head)
	err  api.Errno
}

// wrongs of each field, in the order of the fields.
func wrongs() [][]wrong {
	const small, great = 1 << 21, 1 << 33
	number := func(what string, least int, put func(h *api.Head, n int)) []wrong {
		var l []wrong
		for _, n := range []int{least, least + 1, -1, -8, math.MaxInt, math.MinInt, 1 << 50, -least} {
			l = append(l, wrong{fmt.Sprint(what, n), func(h *api.Head) { put(h, n) }, api.ErrRange})
		}
		return l
	}
	text := func(what string, most int, put func(h *api.Head, s string)) []wrong {
		var l []wrong
		for _, s := range []string{xs(most + 1), zeros(most + 1), xs(most + 2), xs(most) + "\x00", strings.Repeat("é", most/2+1), xs(5000)} {
			l = append(l, wrong{fmt.Sprintf("%s%.30q", what, s), func(h *api.Head) { put(h, s) }, api.ErrSize})
		}
		for _, s := range []string{"\x00", "a\x00", "\x00a", "a\x00b", zeros(most), xs(most-1) + "\x00"} {
			l = append(l, wrong{fmt.Sprintf("%s%.30q", what, s), func(h *api.Head) { put(h, s) }, api.ErrForm})
		}
		return l
	}
	return [][]wrong{
		{
			{"Type 0", func(h *api.Head) { h.Type = 0 }, api.ErrKind},
			{"Type 3", func(h *api.Head) { h.Type = '3' }, api.ErrKind},
			{"Type g", func(h *api.Head) { h.Type = 'g' }, api.ErrKind},
			{"Type X", func(h *api.Head) { h.Type = 'X' }, api.ErrKind},
			{"Type 1", func(h *api.Head) { h.Type = 1 }, api.ErrKind},
		},
		text("Name", 100, func(h *api.Head, s string) { h.Name = s }),
		number("Mode", small, func(h *api.Head, n int) { h.Mode = n }),
		number("UID", small, func(h *api.Head, n int) { h.UID = n }),
		number("GID", small, func(h *api.Head, n int) { h.GID = n }),
		number("Size", great, func(h *api.Head, n int) { h.Size = n }),
		number("Time", great, func(h *api.Head, n int) { h.Time = n }),
		text("Link", 100, func(h *api.Head, s string) { h.Link = s }),
		text("User", 31, func(h *api.Head, s string) { h.User = s }),
		text("Group", 31, func(h *api.Head, s string) { h.Group = s }),
		text("Prefix", 155, func(h *api.Head, s string) { h.Prefix = s }),
	}
}

// P8.2 and P8.3: each error alone, and in each pair of fields that of the first one.
func TestWriteErrors(t *testing.T) {
	all := wrongs()
	for i, first := range all {
		for _, w := range first {
			for _, h := range []api.Head{{Type: '0'}, full(), greatest()} {
				w.put(&h)
				wantWrite(t, h, "", w.err)
			}
		}
		for _, second := range all[i+1:] {
			for _, w := range first {
				for _, v := range second {
					h := full()
					v.put(&h)
					w.put(&h)
					if err := Check(h); err != w.err {
						t.Errorf("%s, %s: %d, want %d", w.what, v.what, err, w.err)
					}
					wantWrite(t, h, "", w.err)
				}
			}
		}
	}
}

// P8.2 and P8.3: with all fields from one on wrong, the error is that of this one.
func TestWriteAllWrong(t *testing.T) {
	all := wrongs()
	for i := range all {
		for _, w := range all[i] {
			h := full()
			for _, later := range all[i+1:] {
				later[len(later)-1].put(&h)
			}
			w.put(&h)
			wantWrite(t, h, "", w.err)
		}
	}
}

// P8.3: a block is one that other archivers read, byte for byte the one that Go's library makes.
func TestWriteAsOthers(t *testing.T) {
	for _, name := range []string{"a", "a/b", xs(100)} {
		for _, b := range []byte("0125") {
			h := api.Head{Name: name, Link: "to", Mode: 0o1755, UID: 12, GID: 34, Time: 1234567890, Type: b, User: "u", Group: "g"}
			var out bytes.Buffer
			w := tar.NewWriter(&out)
			err := w.WriteHeader(&tar.Header{Typeflag: h.Type, Name: h.Name, Linkname: h.Link, Mode: int64(h.Mode), Uid: h.UID, Gid: h.GID, ModTime: time.Unix(int64(h.Time), 0), Uname: h.User, Gname: h.Group, Format: tar.FormatUSTAR})
			if err != nil {
				t.Fatal(err)
			}
			wantWrite(t, h, out.String(), api.OK)
			wantRead(t, out.String(), h, api.OK)
		}
	}
}

// P8.3 and P8.4: other archivers read what is written.
func TestReadByOthers(t *testing.T) {
	h := full()
	h.Size, h.Type = 0, '2'
	s, _ := Write(h)
	got, err := tar.NewReader(strings.NewReader(s + zeros(1024))).Next()
	if err != nil {
		t.Fatal(err)
	}
	if got.Name != "prefix/of it/name" || got.Linkname != "link" || got.Mode != 0o644 || got.Uid != 1000 || got.Gid != 100 || got.ModTime.Unix() != 1234567890 || got.Typeflag != '2' || got.Uname != "user" || got.Gname != "group" {
		t.Errorf("%q is read as %v", s, got)
	}
}

// P8.4: what is no block, which is checked first.
func TestReadSize(t *testing.T) {
	s := blockByWords(full())
	for n := range 512 {
		wantRead(t, s[:n], api.Head{}, api.ErrSize)
		wantRead(t, zeros(n), api.Head{}, api.ErrSize)
		wantRead(t, s+s[:n+1], api.Head{}, api.ErrSize)
		wantRead(t, s+zeros(n+1), api.Head{}, api.ErrSize)
	}
	wantRead(t, xs(1<<20), api.Head{}, api.ErrSize)
}

// P8.4: any byte in place of any byte of a block.
func TestReadEveryByte(t *testing.T) {
	for _, h := range []api.Head{{Type: '0'}, full(), greatest()} {
		s := []byte(blockByWords(h))
		for i := range s {
			was := s[i]
			for b := range 256 {
				if byte(b) != was {
					s[i] = byte(b)
					wantRead(t, string(s), api.Head{}, api.ErrSum)
				}
			}
			s[i] = was
		}
	}
}

// P8.4: checksum fields that other archivers may write, and others of the same sum.
func TestReadSum(t *testing.T) {
	s := blockByWords(full())
	n := sumByWords(s)
	for _, sum := range []string{
		fmt.Sprintf("%07o\x00", n), fmt.Sprintf("%07o ", n), fmt.Sprintf("%06o \x00", n), fmt.Sprintf("%06o\x00\x00", n), fmt.Sprintf("%06o  ", n),
		fmt.Sprintf("%6o\x00 ", n), fmt.Sprintf(" %05o\x00 ", n), fmt.Sprintf("%08o", n), fmt.Sprintf("%o\x00 \x00", n), fmt.Sprintf("%05o\x00  ", n),
		fmt.Sprintf("%06o\x00 ", n+1), fmt.Sprintf("%06o\x00 ", n-1), fmt.Sprintf("%06d\x00 ", n), fmt.Sprintf("%06x\x00 ", n), fmt.Sprintf("%06o\x00 ", n-256),
		zeros(8), "        ", "000000\x00 ", "0000000\x00", "777777\x00 ", xs(8), "\xff\xff\xff\xff\xff\xff\xff\xff",
	} {
		wantRead(t, s[:148]+sum+s[156:], api.Head{}, api.ErrSum)
	}
	wantRead(t, zeros(512), api.Head{}, api.ErrSum)
	wantRead(t, xs(512), api.Head{}, api.ErrSum)
	wantRead(t, strings.Repeat(" ", 512), api.Head{}, api.ErrSum)
}

// P8.4: the sum is checked ahead of all fields.
func TestReadSumFirst(t *testing.T) {
	s := blockByWords(full())
	for _, at := range []int{0, 99, 100, 107, 110, 120, 130, 140, 156, 157, 256, 257, 262, 264, 265, 297, 329, 337, 345, 499, 500, 511} {
		bad := with(s, at, "\x80")
		wantRead(t, bad[:148]+"000000\x00 "+bad[156:], api.Head{}, api.ErrSum)
		wantRead(t, s[:at]+"\x80"+s[at+1:], api.Head{}, api.ErrSum)
	}
}

// readByWords does what P8.4 tells, one condition after the other.
func readByWords(s string) (api.Head, api.Errno) {
	if len(s) != 512 {
		return api.Head{}, api.ErrSize
	}
	if s != summed(s) {
		return api.Head{}, api.ErrSum
	}
	var errs []api.Errno
	text := func(at, width int, whole bool) string {
		part, err := field.Read(s[at:at+width], whole)
		errs = append(errs, err)
		return part
	}
	number := func(at, width int) int {
		n, err := octal.Read(s[at : at+width])
		errs = append(errs, err)
		return n
	}
	h := api.Head{
		Name: text(0, 100, true), Mode: number(100, 8), UID: number(108, 8), GID: number(116, 8), Size: number(124, 12), Time: number(136, 12),
		Type: s[156], Link: text(157, 100, true), User: text(265, 32, false), Group: text(297, 32, false), Prefix: text(345, 155, true),
	}
	for _, err := range errs {
		if err != api.OK {
			return api.Head{}, err
		}
	}
	constant := s[257:265] == "ustar\x00"+"00" && s[329:345] == "0000000\x000000000\x00" && s[500:] == zeros(12)
	if !strings.ContainsRune("0125x", rune(s[156])) || !constant {
		return api.Head{}, api.ErrForm
	}
	return h, api.OK
}

// wantReadByWords wants, too, that what is read is written as it was.
func wantReadByWords(t *testing.T, s string) {
	t.Helper()
	h, err := readByWords(s)
	wantRead(t, s, h, err)
	if err == api.OK {
		wantWrite(t, h, s, api.OK)
	}
}

// P8.4: any byte in place of any byte of a block, which then has the checksum that it should have.
func TestReadEveryByteSummed(t *testing.T) {
	for _, h := range []api.Head{{Type: '0'}, full(), greatest()} {
		s := blockByWords(h)
		for i := range s {
			for b := range 256 {
				wantReadByWords(t, with(s, i, string([]byte{byte(b)})))
			}
		}
	}
}

// P8.4: parts that may not be where they are, and some that may.
func TestReadParts(t *testing.T) {
	s := blockByWords(full())
	for _, at := range []int{0, 100, 108, 116, 124, 136, 148, 156, 157, 257, 262, 265, 297, 329, 337, 345, 500} {
		for _, part := range []string{
			"\x00", "a\x00", "\x00a", "a\x00b", "ustar\x00" + "00", "ustar  \x00", "ustar\x00" + "01", "ustar\x00\x00\x00", "USTAR\x00" + "00", "        ", zeros(8),
			"0000000\x00", "0000001\x00", "00000000", "000000 \x00", "      0\x00", "\x80\x00\x00\x00\x00\x00\x00\x01", "0", "5", "7", "x", "\x00\x00", "0\x00 ",
		} {
			if at+len(part) <= 512 {
				wantReadByWords(t, with(s, at, part))
			}
		}
	}
	for _, owner := range []int{265, 297} {
		wantRead(t, with(s, owner, xs(32)), api.Head{}, api.ErrForm)
		wantReadByWords(t, with(s, owner, xs(31)+"\x00"))
	}
}

// P8.4: each constant part.
func TestReadConstants(t *testing.T) {
	s := blockByWords(full())
	for _, c := range []struct {
		at   int
		part string
	}{
		{257, "ustar  \x00"}, {257, zeros(8)}, {262, " "}, {262, "0"}, {263, "01"}, {263, "  "}, {263, "\x00\x00"}, {257, "Ustar"},
		{329, "0000001\x00"}, {337, "0000001\x00"}, {329, "1000000\x00"}, {337, "1000000\x00"}, {329, zeros(8)}, {337, zeros(8)},
		{329, "0000000 "}, {337, "0000000 "}, {329, "      0\x00"}, {337, "8000000\x00"}, {329, "00000000"}, {337, "00000000"}, {329, "0\x00\x00\x00\x00\x00\x00\x00"},
		{500, "\x01"}, {511, "\x01"}, {505, "0"}, {500, "0000000\x00"}, {500, strings.Repeat(" ", 12)}, {500, xs(12)},
	} {
		wantRead(t, with(s, c.at, c.part), api.Head{}, api.ErrForm)
	}
}
