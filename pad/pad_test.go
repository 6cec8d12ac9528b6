package pad

import (
	"bytes"
	"math"
	"testing"

	"creel/api"
)

// wrongSizes are those just outside the range 0 to 2^33 - 1, and far outside it.
var wrongSizes = []int{
	math.MinInt, math.MinInt + 1, -1 << 33, -513, -512, -511, -2, -1, 1 << 33, 1<<33 + 1, 1<<33 + 512, 1 << 40,
	math.MaxInt - 512, math.MaxInt - 511, math.MaxInt - 1, math.MaxInt,
}

func wantBlocks(t *testing.T, n, want int, wantErr api.Errno) {
	t.Helper()
	if got, err := Blocks(n); got != want || err != wantErr {
		t.Errorf("Blocks(%d) = %d, %d, want %d, %d", n, got, err, want, wantErr)
	}
}

func wantCut(t *testing.T, b []byte, n int, first, rest []byte, wantErr api.Errno) {
	t.Helper()
	f, r, err := Cut(b, n)
	if !bytes.Equal(f, first) || !bytes.Equal(r, rest) || err != wantErr {
		t.Errorf("Cut(%d bytes, %d) = %.40q.. (%d), %.40q.. (%d), %d, want %.40q.. (%d), %.40q.. (%d), %d",
			len(b), n, f, len(f), r, len(r), err, first, len(first), rest, len(rest), wantErr)
	}
}

// bytesOf are n bytes, none of which is 0.
func bytesOf(n int) []byte {
	b := make([]byte, n)
	for i := range b {
		b[i] = byte(1 + i%255)
	}
	return b
}

func join(l ...[]byte) []byte { return bytes.Join(l, nil) }

// inRoom are the same bytes as the start of a longer list, behind which there is something in the unused capacity.
func inRoom(b []byte) []byte { return join(b, bytesOf(1100))[:len(b)] }

// P9.1
func TestBlocks(t *testing.T) {
	for _, c := range []struct{ n, want int }{
		{0, 0}, {1, 1}, {2, 1}, {511, 1}, {512, 1}, {513, 2}, {1023, 2}, {1024, 2}, {1025, 3}, {2000, 4},
		{1<<31 - 1, 1 << 22}, {1 << 31, 1 << 22}, {1<<31 + 1, 1<<22 + 1}, {1 << 32, 1 << 23},
		{1<<33 - 513, 1<<24 - 1}, {1<<33 - 512, 1<<24 - 1}, {1<<33 - 511, 1 << 24}, {1<<33 - 2, 1 << 24}, {1<<33 - 1, 1 << 24},
	} {
		wantBlocks(t, c.n, c.want, api.OK)
	}
}

// P9.1: each byte behind a multiple of Block begins another block.
func TestBlocksEverySize(t *testing.T) {
	blocks := 0
	for n := range 10000 {
		wantBlocks(t, n, blocks, api.OK)
		if n%512 == 0 {
			blocks++
		}
	}
}

// P9.1
func TestBlocksRange(t *testing.T) {
	for _, n := range wrongSizes {
		wantBlocks(t, n, 0, api.ErrRange)
	}
}

// P9.2: every size up to some blocks, with and without unused capacity.
func TestFillEverySize(t *testing.T) {
	size := 0
	for n := range 2100 {
		if n > size {
			size += 512
		}
		want := join(bytesOf(n), make([]byte, size-n))
		for _, b := range [][]byte{bytesOf(n), inRoom(bytesOf(n))} {
			if got := Fill(b); !bytes.Equal(got, want) {
				t.Errorf("Fill of %d bytes is %d bytes, %.40q.., want %d, %.40q..", n, len(got), got, len(want), want)
			}
		}
	}
}

// P9.2: no bytes are a multiple of Block, and so is what is filled already.
func TestFillWhole(t *testing.T) {
	for _, b := range [][]byte{nil, {}, make([]byte, 512), bytesOf(512), make([]byte, 1024), bytesOf(1<<20 + 512)} {
		if got := Fill(b); !bytes.Equal(got, b) {
			t.Errorf("Fill of %d bytes is %d bytes, %.40q..", len(b), len(got), got)
		}
	}
}

// P9.2: bytes that are 0 count as any others.
func TestFillZeros(t *testing.T) {
	for _, n := range []int{1, 2, 511, 513, 1000, 1025} {
		b := make([]byte, n)
		b[0] = 1
		if got := Fill(b); len(got) != (n/512+1)*512 || got[0] != 1 || !bytes.Equal(got[1:], make([]byte, len(got)-1)) {
			t.Errorf("Fill of %d bytes is %d bytes, %.40q..", n, len(got), got)
		}
	}
}

// P9.3: the padding ends with the block; what is behind it is anything, of any size.
func TestCut(t *testing.T) {
	rests := [][]byte{nil, {0}, {7}, bytesOf(511), make([]byte, 511), bytesOf(512), make([]byte, 512), bytesOf(1500), make([]byte, 1024)}
	for _, n := range []int{0, 1, 2, 3, 100, 510, 511, 512, 513, 1000, 1023, 1024, 1025, 2000} {
		for _, rest := range rests {
			for _, first := range [][]byte{bytesOf(n), make([]byte, n)} {
				b := join(Fill(first), rest)
				wantCut(t, b, n, first, rest, api.OK)
				wantCut(t, inRoom(b), n, first, rest, api.OK)
			}
		}
	}
	wantCut(t, []byte{}, 0, nil, nil, api.OK)
	wantCut(t, nil, 0, nil, nil, api.OK)
}

// P9.2 and P9.3: what is filled is cut again, at every size.
func TestCutWhatIsFilled(t *testing.T) {
	rest := bytesOf(700)
	for n := range 2100 {
		first := bytesOf(n)
		wantCut(t, Fill(first), n, first, nil, api.OK)
		wantCut(t, join(Fill(first), rest), n, first, rest, api.OK)
	}
}

// P9.3: the size counts first, whatever the bytes are.
func TestCutRange(t *testing.T) {
	for _, n := range wrongSizes {
		for _, b := range [][]byte{nil, {1}, make([]byte, 512), bytesOf(512), bytesOf(513), make([]byte, 1024), bytesOf(2000)} {
			wantCut(t, b, n, nil, nil, api.ErrRange)
		}
	}
}

// P9.3: the last block is needed whole, whatever would be wrong with its padding.
func TestCutShort(t *testing.T) {
	for n := 1; n <= 1100; n++ {
		blocks, _ := Blocks(n)
		for _, size := range []int{0, 1, n - 1, n, blocks*512 - 512, blocks*512 - 2, blocks*512 - 1} {
			if size >= blocks*512 {
				continue
			}
			wantCut(t, bytesOf(size), n, nil, nil, api.ErrShort)
			wantCut(t, make([]byte, size), n, nil, nil, api.ErrShort)
			wantCut(t, inRoom(make([]byte, size)), n, nil, nil, api.ErrShort)
		}
	}
	for _, n := range []int{513, 1 << 31, 1<<33 - 512, 1<<33 - 1} {
		for _, b := range [][]byte{nil, {0}, make([]byte, 512), bytesOf(512), bytesOf(1023), make([]byte, 1023)} {
			wantCut(t, b, n, nil, nil, api.ErrShort)
		}
	}
}

// P9.3: any byte of the padding, at its first, its last and every other place, and no byte beside it.
func TestCutForm(t *testing.T) {
	for _, n := range []int{0, 1, 2, 256, 510, 511, 512, 513, 700, 1023, 1024} {
		blocks, _ := Blocks(n)
		end := blocks * 512
		for at := range end + 512 {
			b := make([]byte, end+512)
			for _, x := range []byte{1, ' ', '0', 0x80, 0xff} {
				b[at] = x
				if n <= at && at < end {
					wantCut(t, b, n, nil, nil, api.ErrForm)
				} else {
					wantCut(t, b, n, b[:n], b[end:], api.OK)
				}
			}
		}
	}
}

// P9.3: two wrong bytes of the padding do not make up for each other.
func TestCutFormTwice(t *testing.T) {
	b := Fill([]byte("abc"))
	b[100], b[200] = 1, 0xff
	wantCut(t, b, 3, nil, nil, api.ErrForm)
	b[100], b[200] = 0x80, 0x80
	wantCut(t, b, 3, nil, nil, api.ErrForm)
	wantCut(t, bytesOf(1024), 513, nil, nil, api.ErrForm)
}

// P9.4
func TestEnd(t *testing.T) {
	if b := End(); !bytes.Equal(b, make([]byte, 1024)) {
		t.Errorf("End() = %d bytes, %.40q..", len(b), b)
	}
	if !Ends(End()) || !Ends(make([]byte, 1024)) || !Ends(inRoom(make([]byte, 1024))) {
		t.Error("an end is none")
	}
}

// P9.4: an end is of one size only.
func TestEndsSize(t *testing.T) {
	if Ends(nil) {
		t.Error("Ends(nil)")
	}
	for n := range 4100 {
		if got := Ends(make([]byte, n)); got != (n == 1024) {
			t.Errorf("Ends of %d bytes 0 is %t", n, got)
		}
	}
}

// P9.4: any byte other than 0, at every place.
func TestEndsEveryByte(t *testing.T) {
	b := make([]byte, 1024)
	for at := range b {
		for x := 1; x < 256; x++ {
			b[at] = byte(x)
			if Ends(b) {
				t.Errorf("an end has the byte %d at %d", x, at)
			}
		}
		b[at] = 0
	}
	b[3], b[1000] = 0x80, 0x80
	if Ends(b) || Ends(bytesOf(1024)) {
		t.Error("an end has two bytes that are not 0")
	}
}

// taint all bytes of a list, and of its unused capacity.
func taint(b []byte) {
	b = b[:cap(b)]
	for i := range b {
		b[i] = 'T'
	}
}

// P9.2 to P9.4: results share no memory with an argument or with each other, and arguments stay as they are, with what is behind them.
func TestMemory(t *testing.T) {
	for _, n := range []int{0, 1, 3, 511, 512, 513, 1024} {
		all := join(bytesOf(n), make([]byte, (512-n%512)%512), bytesOf(600))
		was := bytes.Clone(all)
		b := all[:n]
		filled := Fill(b)
		first, rest, err := Cut(all[:len(all)-100], n)
		again, err2 := Fill(b), Ends(b)
		if err != api.OK || err2 || !bytes.Equal(all, was) {
			t.Errorf("%d bytes: %d, %t, or an argument has changed", n, err, err2)
		}
		taint(filled)
		taint(first)
		if !bytes.Equal(all, was) || !bytes.Equal(again[:n], was[:n]) || !bytes.Equal(rest, was[len(was)-600:len(was)-100]) {
			t.Errorf("%d bytes: results share memory", n)
		}
		taint(rest)
		if !bytes.Equal(all, was) {
			t.Errorf("%d bytes: the rest shares memory", n)
		}
	}
	taint(End())
	if !Ends(End()) {
		t.Error("ends share memory")
	}
}
