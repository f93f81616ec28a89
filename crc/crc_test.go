package crc_test

import (
	"bytes"
	"hash/crc32"
	"math"
	"math/rand/v2"
	"testing"

	"theodolite/crc"
)

// bitStep is 2.1's step, word by word: the register is shifted right, and changed if the bit that went out is not the text's.
func bitStep(reg uint32, bit bool) uint32 {
	out := reg%2 == 1
	reg /= 2
	if out != bit {
		reg ^= 0xedb88320
	}
	return reg
}

// plainSum is 2.1, word by word.
func plainSum(b []byte) uint32 {
	reg := uint32(0xffffffff)
	for _, x := range b {
		for i := range 8 {
			reg = bitStep(reg, x>>i&1 == 1)
		}
	}
	return 0xffffffff - reg
}

// plainShift is 2.2's Shift, nought by nought.
func plainShift(sum uint32, noughts int) uint32 {
	for range noughts {
		for range 8 {
			sum = bitStep(sum, false)
		}
	}
	return sum
}

// anyBytes is n bytes that look like any, the same ones for the same source.
func anyBytes(c *rand.Rand, n int) []byte {
	b := make([]byte, n)
	for i := range b {
		b[i] = byte(c.Uint32())
	}
	return b
}

// someSums is registers of few bits, of many, and of any.
func someSums() []uint32 {
	sums := []uint32{0, 0xffffffff, 0xedb88320, 0xcbf43926, 0x80000001, 0x55555555, 0x12345678}
	for i := range 32 {
		sums = append(sums, 1<<i)
	}
	return sums
}

// Example 1, and 2.1: sums that are known from elsewhere.
func TestSumKnown(t *testing.T) {
	for _, c := range []struct {
		text string
		want uint32
	}{
		{"123456789", 0xcbf43926},
		{"", 0},
		{"a", 0xe8b7be43},
		{"abc", 0x352441c2},
		{"\x00", 0xd202ef8d},
		{"\x00\x00\x00\x00", 0x2144df1c},
		{"\xff\xff\xff\xff", 0xffffffff},
		{"The quick brown fox jumps over the lazy dog", 0x414fa339},
	} {
		if got := crc.Sum([]byte(c.text)); got != c.want {
			t.Errorf("%q: %08x, not %08x", c.text, got, c.want)
		}
	}
}

// 2.1: no bytes at all leave the register as it is, and turn it round.
func TestSumOfNothing(t *testing.T) {
	for _, b := range [][]byte{nil, {}, []byte("room")[:0]} {
		if got := crc.Sum(b); got != 0 {
			t.Errorf("%08x", got)
		}
	}
}

// 2.1: bit by bit, the lowest first, for texts of any length.
func TestSum(t *testing.T) {
	for x := range 256 {
		for _, b := range [][]byte{{byte(x)}, {0, byte(x)}, {byte(x), 0xff}} {
			if got := crc.Sum(b); got != plainSum(b) {
				t.Errorf("%x: %08x, not %08x", b, got, plainSum(b))
			}
		}
	}
	c := rand.New(rand.NewPCG(2, 1))
	for n := range 300 {
		b := anyBytes(c, n)
		got := crc.Sum(b)
		if got != plainSum(b) || got != crc32.ChecksumIEEE(b) {
			t.Errorf("%x: %08x, not %08x", b, got, plainSum(b))
		}
	}
	b := anyBytes(c, 1<<20)
	if got := crc.Sum(b); got != crc32.ChecksumIEEE(b) {
		t.Errorf("a long text: %08x", got)
	}
}

// 2.1 and R3: what is behind a length is not read, and nothing is changed.
func TestSumReadsItsOwn(t *testing.T) {
	room := []byte("123456789 and more")
	if got := crc.Sum(room[:9]); got != 0xcbf43926 {
		t.Errorf("%08x", got)
	}
	if string(room) != "123456789 and more" {
		t.Errorf("%q", room)
	}
}

// 2.2: nought by nought.
func TestShift(t *testing.T) {
	for _, sum := range someSums() {
		for _, n := range []int{1, 2, 3, 4, 5, 7, 8, 9, 15, 16, 31, 32, 33, 64, 100, 255, 256, 1000} {
			if got, want := crc.Shift(sum, n), plainShift(sum, n); got != want {
				t.Errorf("%08x behind %d noughts: %08x, not %08x", sum, n, got, want)
			}
		}
	}
	if got, want := crc.Shift(0xcbf43926, 1<<20+12345), plainShift(0xcbf43926, 1<<20+12345); got != want {
		t.Errorf("%08x, not %08x", got, want)
	}
}

// 2.2: no noughts, and fewer than none, are the sum itself.
func TestShiftByNone(t *testing.T) {
	for _, sum := range someSums() {
		for _, n := range []int{0, -1, -2, -7, -8, -1 << 31, math.MinInt + 1, math.MinInt} {
			if got := crc.Shift(sum, n); got != sum {
				t.Errorf("%08x behind %d noughts: %08x", sum, n, got)
			}
		}
	}
}

// 2.2: many noughts are as good as those on top of others, for the greatest numbers, too.
func TestShiftByMany(t *testing.T) {
	counts := []int{1, 1000, 1<<29 - 1, 1 << 29, 1<<31 - 1, 1 << 31, 1<<32 + 5, 1 << 60, 1 << 61, 1<<61 + 12345, math.MaxInt / 2}
	for _, sum := range someSums() {
		for _, m := range counts {
			for _, n := range counts {
				if got, want := crc.Shift(crc.Shift(sum, m), n), crc.Shift(sum, m+n); got != want {
					t.Errorf("%08x behind %d and %d noughts: %08x, not %08x", sum, m, n, got, want)
				}
			}
		}
	}
}

// 2.2: the step comes round behind 2^32 - 1 noughts, and no sooner, which tells of great numbers by small ones.
func TestShiftComesRound(t *testing.T) {
	const round = 1<<32 - 1
	for _, sum := range someSums() {
		for _, n := range []int{0, 1, 2, 77, 1000} {
			for _, times := range []int{1, 2, 1 << 30} {
				if got, want := crc.Shift(sum, round*times+n), plainShift(sum, n); got != want {
					t.Errorf("%08x behind %d noughts: %08x, not %08x", sum, round*times+n, got, want)
				}
			}
		}
		// 2^63 - 1 is 2^31 - 1 behind whole rounds.
		if got, want := crc.Shift(sum, math.MaxInt), crc.Shift(sum, math.MaxInt%round); got != want {
			t.Errorf("%08x behind the most noughts: %08x, not %08x", sum, got, want)
		}
	}
	for _, prime := range []int{3, 5, 17, 257, 65537} {
		if crc.Shift(1, round/prime) == 1 {
			t.Errorf("round behind a %dth already", prime)
		}
	}
}

// 2.2: two texts, one behind the other, wherever they part; nothing behind a text, and nothing ahead of one.
func TestJoin(t *testing.T) {
	c := rand.New(rand.NewPCG(2, 2))
	for n := range 70 {
		b := anyBytes(c, n)
		for i := range n + 1 {
			if got := crc.Join(crc.Sum(b[:i]), crc.Sum(b[i:]), n-i); got != crc.Sum(b) {
				t.Errorf("%x, parted at %d: %08x, not %08x", b, i, got, crc.Sum(b))
			}
		}
	}
	for _, sum := range someSums() {
		if got := crc.Join(sum, crc.Sum(nil), 0); got != sum {
			t.Errorf("nothing behind %08x: %08x", sum, got)
		}
		if got := crc.Join(crc.Sum(nil), sum, 9); got != sum {
			t.Errorf("%08x behind nothing: %08x", sum, got)
		}
	}
}

// 2.2: of a long text, too, and of texts whose length is no power of two.
func TestJoinLong(t *testing.T) {
	c := rand.New(rand.NewPCG(2, 3))
	b := anyBytes(c, 300001)
	for _, i := range []int{0, 1, 255, 65536, 123457, 300000, 300001} {
		if got := crc.Join(crc.Sum(b[:i]), crc.Sum(b[i:]), len(b)-i); got != crc.Sum(b) {
			t.Errorf("parted at %d: %08x, not %08x", i, got, crc.Sum(b))
		}
	}
}

// 2.2: by the words, for any sums and sizes: Shift of the first by the size, exclusive-or the second.
func TestJoinByTheWords(t *testing.T) {
	sums := someSums()
	for i, a := range sums {
		b := sums[len(sums)-1-i]
		for _, size := range []int{math.MinInt, -1, 0} {
			if got := crc.Join(a, b, size); got != a^b {
				t.Errorf("Join(%08x, %08x, %d): %08x", a, b, size, got)
			}
		}
		for _, size := range []int{1, 2, 9, 500} {
			if got := crc.Join(a, b, size); got != plainShift(a, size)^b {
				t.Errorf("Join(%08x, %08x, %d): %08x", a, b, size, got)
			}
		}
		if got := crc.Join(a, b, math.MaxInt); got != crc.Shift(a, math.MaxInt)^b {
			t.Errorf("Join(%08x, %08x) by the most: %08x", a, b, got)
		}
	}
}

// 2.3: the sum stands behind, in four bytes, the lowest first.
func TestPut(t *testing.T) {
	for _, c := range []struct{ text, want string }{
		{"123456789", "123456789\x26\x39\xf4\xcb"},
		{"", "\x00\x00\x00\x00"},
		{"\x00", "\x00\x8d\xef\x02\xd2"},
		{"a", "a\x43\xbe\xb7\xe8"},
	} {
		if got := crc.Put([]byte(c.text)); string(got) != c.want {
			t.Errorf("Put(%q): %q", c.text, got)
		}
	}
	if got := crc.Put(nil); !bytes.Equal(got, []byte{0, 0, 0, 0}) {
		t.Errorf("%x", got)
	}
}

// 2.3 and R3: b is not written to, nor is what lies behind it, and no memory is shared.
func TestPutIsNew(t *testing.T) {
	room := []byte("123456789 and more")
	got := crc.Put(room[:9])
	if string(room) != "123456789 and more" {
		t.Errorf("%q was changed", room)
	}
	got[0] = 'x'
	if room[0] != '1' {
		t.Error("memory is shared")
	}
	one := crc.Put(nil)
	one[0] = 1
	if two := crc.Put(nil); two[0] != 0 {
		t.Error("two answers share memory")
	}
}

// 2.3: there and back.
func TestGet(t *testing.T) {
	c := rand.New(rand.NewPCG(2, 4))
	for n := range 200 {
		b := anyBytes(c, n)
		if got, ok := crc.Get(crc.Put(b)); !ok || !bytes.Equal(got, b) {
			t.Errorf("%x: %x, %t", b, got, ok)
		}
	}
	if got, ok := crc.Get([]byte{0, 0, 0, 0}); !ok || len(got) != 0 {
		t.Errorf("no bytes, and their sum: %x, %t", got, ok)
	}
	if got, ok := crc.Get([]byte("123456789\x26\x39\xf4\xcb")); !ok || string(got) != "123456789" {
		t.Errorf("%q, %t", got, ok)
	}
	twice := crc.Put(crc.Put([]byte("abc")))
	if got, ok := crc.Get(twice); !ok || !bytes.Equal(got, crc.Put([]byte("abc"))) {
		t.Errorf("a sum of a text with its sum: %x, %t", got, ok)
	}
}

// isNone fails if bytes are taken for such as have their sum behind them.
func isNone(t *testing.T, b []byte) {
	t.Helper()
	if got, ok := crc.Get(b); ok || len(got) != 0 {
		t.Errorf("Get(%x): %x, %t", b, got, ok)
	}
}

// 2.3: bytes that are too few for a sum, whatever they are.
func TestGetTooFew(t *testing.T) {
	isNone(t, nil)
	isNone(t, []byte{})
	for n := 1; n < 4; n++ {
		isNone(t, make([]byte, n))
		isNone(t, bytes.Repeat([]byte{0xff}, n))
	}
	room := crc.Put(nil)
	isNone(t, room[:3])
	isNone(t, room[:0])
}

// 2.3: bytes that have not their sum behind them.
func TestGetWrong(t *testing.T) {
	isNone(t, []byte{1, 0, 0, 0})
	isNone(t, []byte{0, 0, 0, 1})
	isNone(t, []byte{0xff, 0xff, 0xff, 0xff})
	isNone(t, []byte("123456789\xcb\xf4\x39\x26"))
	isNone(t, []byte("\x26\x39\xf4\xcb123456789"))
	isNone(t, []byte("123456789"))
	b := crc.Put([]byte("123456789"))
	for i := range b {
		for x := 1; x < 256; x++ {
			wrong := bytes.Clone(b)
			wrong[i] ^= byte(x)
			isNone(t, wrong)
		}
		isNone(t, b[:i])
		isNone(t, append(bytes.Clone(b[:i]), b[i+1:]...))
	}
	isNone(t, append(bytes.Clone(b), 0))
	isNone(t, append(bytes.Clone(b), 0, 0, 0, 0))
}

// 2.3 and R3: nothing is changed or shared, and what is behind a length is neither read nor handed out.
func TestGetIsNew(t *testing.T) {
	whole := crc.Put([]byte("123456789"))
	room := append(bytes.Clone(whole), " and more"...)
	got, ok := crc.Get(room[:len(whole)])
	if !ok || string(got) != "123456789" {
		t.Fatalf("%q, %t", got, ok)
	}
	if more := append(got, "xyz"...); string(more) != "123456789xyz" || !bytes.Equal(room[:len(whole)], whole) {
		t.Errorf("%q was changed", room)
	}
	got[0] = 'x'
	if room[0] != '1' {
		t.Error("memory is shared")
	}
	room[1] = 'y'
	if got[1] != '2' {
		t.Error("b was kept")
	}
	isNone(t, whole[:len(whole)-1])
}

// turn turns one bit, byte by byte, the lowest first.
func turn(b []byte, bit int) { b[bit/8] ^= 1 << (bit % 8) }

// 2.4: one bit, or two within 32 of each other, in the text or in its sum.
func TestOneOrTwoBitsTurned(t *testing.T) {
	c := rand.New(rand.NewPCG(2, 5))
	for _, n := range []int{0, 1, 4, 5, 20} {
		b := crc.Put(anyBytes(c, n))
		for i := range 8 * len(b) {
			for j := i; j < min(i+32, 8*len(b)); j++ {
				wrong := bytes.Clone(b)
				turn(wrong, i)
				if j > i {
					turn(wrong, j)
				}
				isNone(t, wrong)
				if head := wrong[:n]; !bytes.Equal(head, b[:n]) && crc.Sum(head) == crc.Sum(b[:n]) {
					t.Errorf("%x and %x have one sum", head, b[:n])
				}
			}
		}
	}
}

// 2.4: any bits within 32, at any place.
func TestBitsTurned(t *testing.T) {
	c := rand.New(rand.NewPCG(2, 6))
	b := crc.Put(anyBytes(c, 30))
	for at := range 8*len(b) - 31 {
		for k := range 40 {
			bits := c.Uint32() | 1
			if k == 0 {
				bits = 0xffffffff
			}
			wrong := bytes.Clone(b)
			for i := range 32 {
				if bits>>i&1 == 1 {
					turn(wrong, at+i)
				}
			}
			isNone(t, wrong)
		}
	}
}

// rank is how many of the numbers are no exclusive-or of others of them.
func rank(all []uint32) int {
	n := 0
	for bit := range 32 {
		at := n
		for at < len(all) && all[at]>>bit&1 == 0 {
			at++
		}
		if at == len(all) {
			continue
		}
		all[n], all[at] = all[at], all[n]
		for i := range all {
			if i != n && all[i]>>bit&1 == 1 {
				all[i] ^= all[n]
			}
		}
		n++
	}
	return n
}

// 2.4: by all ways at once: what each of 32 bits in a row changes is no exclusive-or of what the others change, so no choice of them changes nothing.
func TestNoBitsWithin32CancelOut(t *testing.T) {
	const size = 24
	c := rand.New(rand.NewPCG(2, 7))
	b := anyBytes(c, size)
	var changes []uint32
	for i := range 8 * size {
		turned := bytes.Clone(b)
		turn(turned, i)
		changes = append(changes, crc.Sum(turned)^crc.Sum(b))
	}
	for at := range 8*size - 31 {
		if n := rank(append([]uint32(nil), changes[at:at+32]...)); n != 32 {
			t.Errorf("of 32 bits from %d on, %d change the sum by themselves", at, n)
		}
	}
	for range 1000 {
		turned := bytes.Clone(b)
		want := crc.Sum(b)
		for range c.IntN(40) {
			i := c.IntN(8 * size)
			turn(turned, i)
			want ^= changes[i]
		}
		if crc.Sum(turned) != want {
			t.Fatalf("%x: bits do not change a sum one by one", turned)
		}
	}
}
