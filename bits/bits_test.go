package bits_test

import (
	"bytes"
	"math"
	"strings"
	"testing"

	"theodolite/api"
	"theodolite/bits"
)

// digits tells the first n bits of bytes as text.
func digits(b []byte, n int) string {
	var s strings.Builder
	for i := range n {
		s.WriteByte('0' + b[i/8]>>(7-i%8)&1)
	}
	return s.String()
}

// pack is a text of noughts and ones as bytes, by its own way.
func pack(s string) []byte {
	s += strings.Repeat("0", (8-len(s)%8)%8)
	var b []byte
	for ; s != ""; s = s[8:] {
		var x byte
		for _, c := range []byte(s[:8]) {
			x = 2*x + c - '0'
		}
		b = append(b, x)
	}
	return b
}

// wrote fails if a writer has not just the bits of a text, with noughts behind them.
func wrote(t *testing.T, w *bits.Writer, want string) {
	t.Helper()
	if w.Len() != len(want) {
		t.Fatalf("Len %d, not %d", w.Len(), len(want))
	}
	if got := w.Bytes(); !bytes.Equal(got, pack(want)) {
		t.Fatalf("Bytes %x, not %x", got, pack(want))
	}
}

// chance is numbers that look like any, always the same ones.
type chance uint64

func (c *chance) next() uint64 {
	*c = *c*6364136223846793005 + 1442695040888963407
	x := uint64(*c)
	return x ^ x>>29 ^ x<<31
}

func (c *chance) below(n int) int { return int(c.next() % uint64(n)) }

// 1.1: a zero Writer has written nothing.
func TestWriterZero(t *testing.T) {
	var w bits.Writer
	wrote(t, &w, "")
}

// 1.1: bits, eight a byte, the first one the highest.
func TestWriterBit(t *testing.T) {
	var w bits.Writer
	want := ""
	for i := range 27 {
		is := i%3 == 0 || i == 7
		w.Bit(is)
		want += map[bool]string{true: "1", false: "0"}[is]
		wrote(t, &w, want)
	}
}

// 1.1: the lowest bits, the highest first; none below 1; noughts ahead of 64.
func TestWriterNum(t *testing.T) {
	const x = 0x8123456789abcdef
	full := digits([]byte{0x81, 0x23, 0x45, 0x67, 0x89, 0xab, 0xcd, 0xef}, 64)
	for _, ahead := range []string{"", "1", "1011011"} {
		for _, size := range []int{math.MinInt, -64, -1, 0, 1, 2, 7, 8, 9, 31, 32, 33, 63, 64, 65, 72, 127, 128, 129, 1000} {
			var w bits.Writer
			for _, c := range ahead {
				w.Bit(c == '1')
			}
			w.Num(x, size)
			w.Bit(true)
			want := ""
			switch {
			case size > 64:
				want = strings.Repeat("0", size-64) + full
			case size > 0:
				want = full[64-size:]
			}
			wrote(t, &w, ahead+want+"1")
		}
	}
}

// 1.1: ones, none below 1, and a nought in any case.
func TestWriterOnes(t *testing.T) {
	for _, n := range []int{math.MinInt, -1, 0, 1, 2, 6, 7, 8, 9, 63, 64, 65, 1000} {
		var w bits.Writer
		w.Bit(true)
		w.Ones(n)
		w.Bit(true)
		wrote(t, &w, "1"+strings.Repeat("1", max(n, 0))+"01")
	}
}

// 1.1 and R3: what was answered once is neither written to, nor what is written from.
func TestWriterBytesAreNew(t *testing.T) {
	var w bits.Writer
	w.Num(0x5a5, 12)
	first := w.Bytes()
	w.Num(0xf, 4)
	if !bytes.Equal(first, []byte{0x5a, 0x50}) {
		t.Errorf("%x: the writer wrote to what it had answered", first)
	}
	second := w.Bytes()
	second[0] = 0
	wrote(t, &w, "0101101001011111")
}

// R1 and R7: a count beyond the bound ends.
func TestWriterBeyondTheBound(t *testing.T) {
	var w bits.Writer
	w.Num(1, math.MaxInt)
	w.Ones(math.MaxInt)
	if b := bits.Put(nil, 1, math.MaxInt); len(b) != 0 {
		t.Error(len(b))
	}
}

// 1.2: bits, one by one, how many are left, and were read.
func TestReaderBit(t *testing.T) {
	b := []byte{0xba, 0x01, 0x80}
	r := bits.Read(b)
	got := ""
	for i := range 24 {
		if r.At() != i || r.Left() != 24-i || !r.Right() {
			t.Fatal(i, r.At(), r.Left(), r.Right())
		}
		got += map[bool]string{true: "1", false: "0"}[r.Bit()]
	}
	if got != digits(b, 24) {
		t.Error(got)
	}
	if r.At() != 24 || r.Left() != 0 || !r.Right() {
		t.Error(r.At(), r.Left(), r.Right())
	}
}

// isWrong fails if a reader tells anything but that it is wrong, or ever does again.
func isWrong(t *testing.T, r *bits.Reader) {
	t.Helper()
	for range 3 {
		if r.Right() || r.Bit() || r.Num(0) != 0 || r.Num(1) != 0 || r.Num(64) != 0 || r.Ones(64) != 0 || r.Ones(0) != 0 {
			t.Fatal("something is told behind something that was wrong")
		}
		if r.Left() != 0 || r.At() != 0 || r.Num(-1) != 0 || r.Ones(-1) != 0 {
			t.Fatal("something is told behind something that was wrong")
		}
		if r.Right() || r.Close() {
			t.Fatal("right again")
		}
	}
}

// 1.2: no bit is left: wrong, then and ever after.
func TestReaderBitWrong(t *testing.T) {
	for _, b := range [][]byte{nil, {}, {0xff}, {0xff, 0xff}} {
		r := bits.Read(b)
		for range 8 * len(b) {
			if !r.Bit() {
				t.Fatal("a one is a nought")
			}
		}
		if !r.Right() || r.Left() != 0 {
			t.Fatal(r.Right(), r.Left())
		}
		if r.Bit() {
			t.Error("a bit that is not there")
		}
		isWrong(t, r)
	}
}

// 1.2: the number of the next bits, modulo 2^64.
func TestReaderNum(t *testing.T) {
	b := make([]byte, 40)
	for i := range b {
		b[i] = byte(37*i + 129)
	}
	all := digits(b, 8*len(b))
	for _, ahead := range []int{0, 1, 5, 8} {
		for _, size := range []int{0, 1, 2, 7, 8, 9, 31, 33, 63, 64, 65, 72, 128, 200, 312} {
			r := bits.Read(b)
			r.Num(ahead)
			var want uint64
			for _, c := range all[ahead : ahead+size] {
				want = 2*want + uint64(c-'0')
			}
			if x := r.Num(size); x != want || !r.Right() {
				t.Errorf("%d bits behind %d: %x, not %x", size, ahead, x, want)
			}
			if r.At() != ahead+size || r.Left() != 320-ahead-size {
				t.Errorf("%d bits behind %d: at %d, left %d", size, ahead, r.At(), r.Left())
			}
		}
	}
}

// 1.2: sizes below 0, and bits that are not there, are wrong; none of the last bits is told then.
func TestReaderNumWrong(t *testing.T) {
	for _, size := range []int{math.MinInt, -64, -1, 14, 16, 64, 65, math.MaxInt} {
		r := bits.Read([]byte{0xff, 0xff})
		r.Num(3)
		if x := r.Num(size); x != 0 {
			t.Errorf("%d bits: %x", size, x)
		}
		isWrong(t, r)
	}
	for _, b := range [][]byte{nil, {0xff}} {
		r := bits.Read(b)
		r.Num(8 * len(b))
		if r.Num(0) != 0 || !r.Right() {
			t.Error("no bits are there at the end, too")
		}
		if r.Num(1) != 0 {
			t.Error("a bit that is not there")
		}
		isWrong(t, r)
	}
}

// 1.2: ones ahead of the next nought, which is read, too; as many as may be, and no more.
func TestReaderOnes(t *testing.T) {
	for _, n := range []int{0, 1, 2, 7, 8, 9, 15, 16, 63, 64, 100} {
		b := pack("01" + strings.Repeat("1", n) + "011")
		for _, most := range []int{math.MinInt, -1, 0, n - 1, n, n + 1, 1000, math.MaxInt} {
			r := bits.Read(b)
			r.Num(2)
			got := r.Ones(most)
			if n > most {
				if got != 0 {
					t.Errorf("%d ones, %d at most: %d", n, most, got)
				}
				isWrong(t, r)
				continue
			}
			if got != n || !r.Right() || r.At() != n+3 || r.Left() != 8*len(b)-n-3 {
				t.Errorf("%d ones, %d at most: %d, at %d", n, most, got, r.At())
			}
			if !r.Bit() || !r.Bit() {
				t.Error("what is behind the nought is not there")
			}
		}
	}
}

// 1.2: ones past the end have no nought.
func TestReaderOnesWrong(t *testing.T) {
	for _, b := range [][]byte{nil, {0xff}, {0x00, 0x07}, {0xff, 0xff, 0xff}} {
		r := bits.Read(b)
		if len(b) == 2 {
			r.Num(13)
		}
		if n := r.Ones(math.MaxInt); n != 0 {
			t.Error(n)
		}
		isWrong(t, r)
	}
	r := bits.Read([]byte{0xfe})
	if r.Ones(7) != 7 || !r.Right() || r.Left() != 0 {
		t.Error("a nought as the last bit is a nought")
	}
}

// 1.2: Close tells of noughts, fewer than eight, and reads them.
func TestReaderClose(t *testing.T) {
	for _, c := range []struct {
		b    []byte
		read int
		want bool
	}{
		{nil, 0, true},
		{[]byte{0xff}, 8, true},
		{[]byte{0xfe}, 7, true},
		{[]byte{0xff}, 7, false},
		{[]byte{0x80}, 1, true},
		{[]byte{0x80}, 0, false},
		{[]byte{0xc0}, 1, false},
		{[]byte{0x81}, 1, false},
		{[]byte{0x88}, 1, false},
		{[]byte{0x00}, 0, false},
		{[]byte{0x00}, 1, true},
		{[]byte{0xff, 0x00}, 8, false},
		{[]byte{0xff, 0x00}, 9, true},
		{[]byte{0xff, 0x00}, 1, false},
		{[]byte{0x00, 0x00}, 7, false},
	} {
		r := bits.Read(c.b)
		r.Num(c.read)
		if got := r.Close(); got != c.want {
			t.Errorf("%x behind %d bits: %t", c.b, c.read, got)
		}
		if !c.want {
			continue
		}
		if r.Left() != 0 || r.At() != 8*len(c.b) || !r.Right() || !r.Close() {
			t.Errorf("%x behind %d bits: the noughts were not read", c.b, c.read)
		}
	}
}

// R3: what is handed in is not changed, not kept, and not read behind its length.
func TestReaderKeepsNothing(t *testing.T) {
	room := []byte{0xba, 0xff, 0xff}
	r := bits.Read(room[:1])
	if r.Left() != 8 {
		t.Error(r.Left())
	}
	room[0] = 0
	if x := r.Num(8); x != 0xba {
		t.Errorf("%x: the reader reads what is not its own", x)
	}
	if r.Bit() || r.Right() {
		t.Error("what is behind the length was read")
	}
	if !bytes.Equal(room, []byte{0, 0xff, 0xff}) {
		t.Errorf("%x", room)
	}
}

// 1.3: the lowest byte first; none below 1; noughts behind eight.
func TestPut(t *testing.T) {
	const x = 0x8123456789abcdef
	low := []byte{0xef, 0xcd, 0xab, 0x89, 0x67, 0x45, 0x23, 0x81, 0, 0, 0, 0}
	for _, b := range [][]byte{nil, {}, {7}, {1, 2, 3}} {
		for _, size := range []int{math.MinInt, -1, 0, 1, 2, 3, 4, 7, 8, 9, 12} {
			want := append(bytes.Clone(b), low[:max(size, 0)]...)
			if got := bits.Put(b, x, size); !bytes.Equal(got, want) {
				t.Errorf("Put(%x, %d): %x, not %x", b, size, got, want)
			}
		}
	}
}

// 1.3 and R3: neither b, nor what lies behind it in its memory, is written to or shared.
func TestPutIsNew(t *testing.T) {
	for _, size := range []int{-1, 0, 1, 2} {
		room := []byte{1, 2, 3, 4}
		got := bits.Put(room[:2], 0xffff, size)
		if !bytes.Equal(room, []byte{1, 2, 3, 4}) {
			t.Errorf("%d bytes: %x was changed", size, room)
		}
		got[0] = 9
		if room[0] != 1 {
			t.Errorf("%d bytes: memory is shared", size)
		}
	}
	one := bits.Put(make([]byte, 100), 1, 1)
	two := bits.Put(one, 2, 1)
	bits.Put(one, 3, 1)
	if two[101] != 2 {
		t.Error("what was answered once was written to")
	}
}

// 1.3: numbers that are there.
func TestGet(t *testing.T) {
	b := []byte{0xef, 0xcd, 0xab, 0x89, 0x67, 0x45, 0x23, 0x81, 0xff, 0xff}
	for _, c := range []struct {
		at, size int
		want     uint64
	}{
		{0, 0, 0}, {0, 1, 0xef}, {0, 2, 0xcdef}, {0, 7, 0x23456789abcdef}, {0, 8, 0x8123456789abcdef},
		{2, 8, 0xffff8123456789ab}, {9, 1, 0xff}, {8, 2, 0xffff}, {7, 2, 0xff81}, {9, 0, 0}, {10, 0, 0},
	} {
		if x, code := bits.Get(b, c.at, c.size); x != c.want || code != api.OK {
			t.Errorf("Get at %d, %d bytes: %x, %d", c.at, c.size, x, code)
		}
	}
	if x, code := bits.Get(nil, 0, 0); x != 0 || code != api.OK {
		t.Error(x, code)
	}
}

// 1.3: sizes that are none, and bytes that are not there; what lies behind a length is not there.
func TestGetErrRange(t *testing.T) {
	room := bytes.Repeat([]byte{0xff}, 20)
	b := room[:10]
	for _, c := range [][2]int{
		{0, -1}, {0, 9}, {0, math.MaxInt}, {0, math.MinInt}, {5, -1},
		{-1, 0}, {-1, 1}, {math.MinInt, 1}, {math.MinInt, 8},
		{10, 1}, {9, 2}, {3, 8}, {11, 0}, {11, 1}, {19, 1}, {math.MaxInt, 0}, {math.MaxInt, 1}, {math.MaxInt, 8}, {math.MaxInt, math.MaxInt},
	} {
		if x, code := bits.Get(b, c[0], c[1]); x != 0 || code != api.ErrRange {
			t.Errorf("Get at %d, %d bytes: %x, %d", c[0], c[1], x, code)
		}
	}
	if x, code := bits.Get(nil, 0, 1); x != 0 || code != api.ErrRange {
		t.Error(x, code)
	}
}

// step is one thing that is written, and read.
type step struct {
	kind, size int
	x          uint64
}

func anyStep(c *chance) step {
	s := step{kind: c.below(3)}
	switch s.kind {
	case 0:
		s.x = c.next() & 1
	case 1:
		s.size = c.below(70)
		s.x = c.next()
		if s.size < 64 {
			s.x &= 1<<s.size - 1
		}
	case 2:
		s.size = c.below(30)
	}
	return s
}

func (s step) write(w *bits.Writer) {
	switch s.kind {
	case 0:
		w.Bit(s.x == 1)
	case 1:
		w.Num(s.x, s.size)
	case 2:
		w.Ones(s.size)
	}
}

func (s step) isNext(r *bits.Reader) bool {
	switch s.kind {
	case 0:
		return r.Bit() == (s.x == 1)
	case 1:
		return r.Num(s.size) == s.x
	}
	return r.Ones(s.size) == s.size
}

// 1.4: what is written as bits is read as what it was, and nothing is left.
func TestThereAndBackBits(t *testing.T) {
	c := chance(1)
	for range 300 {
		var w bits.Writer
		var all []step
		for range c.below(40) {
			s := anyStep(&c)
			s.write(&w)
			all = append(all, s)
		}
		r := bits.Read(w.Bytes())
		for i, s := range all {
			if !s.isNext(r) || !r.Right() {
				t.Fatal(i, all)
			}
		}
		if r.At() != w.Len() || !r.Close() {
			t.Fatal(r.At(), w.Len(), all)
		}
	}
}

// 1.4: what is put as bytes is got as what it was.
func TestThereAndBackBytes(t *testing.T) {
	c := chance(2)
	for range 1000 {
		b := make([]byte, c.below(10))
		x, size := c.next(), c.below(9)
		if size < 8 {
			x &= 1<<(8*size) - 1
		}
		out := bits.Put(bits.Put(b, x, size), c.next(), c.below(4))
		if got, code := bits.Get(out, len(b), size); got != x || code != api.OK {
			t.Fatal(got, x, size, code)
		}
	}
}

// Example 1: 5 in three bits, two ones and a nought, a one.
func TestExample(t *testing.T) {
	var w bits.Writer
	w.Num(5, 3)
	w.Ones(2)
	w.Bit(true)
	wrote(t, &w, "1011101")
	if s := digits(w.Bytes(), 8); s != "10111010" {
		t.Error(s)
	}
}
