package rice_test

import (
	"math"
	"math/rand/v2"
	"slices"
	"strings"
	"testing"

	"theodolite/bits"
	"theodolite/rice"
)

// low and high are the ends of the numbers that rows are made of.
const (
	low  = -65536
	high = 65535
)

// far is numbers that are no parameter.
var far = []int{math.MinInt, -17, -1, 17, 18, 31, 32, 64, math.MaxInt}

// plainFold is 7.1's Fold, word by word, with room.
func plainFold(x int32) int64 {
	if x >= 0 {
		return 2 * int64(x)
	}
	return -2*int64(x) - 1
}

// lowest is the lowest bits of a number as text, the highest first.
func lowest(n int64, size int) string {
	s := ""
	for range size {
		s = string(rune('0'+n%2)) + s
		n /= 2
	}
	return s
}

// plainCode is 7.2's code of a folded number as text, word by word.
func plainCode(n int64, k int) string {
	q := n
	for range k {
		q /= 2
	}
	if q < 20 {
		return strings.Repeat("1", int(q)) + "0" + lowest(n, k)
	}
	return strings.Repeat("1", 20) + "0" + lowest(n, 17)
}

// plainBest is 7.3's Best, told by codes as text.
func plainBest(l []int32) (int, int) {
	best, fewest := -1, 0
	for k := range 17 {
		size := 0
		for _, x := range l {
			size += len(plainCode(plainFold(x), k))
		}
		if best < 0 || size < fewest {
			best, fewest = k, size
		}
	}
	return best, fewest
}

// plainRow is numbers by some parameter, which stands ahead of them, as text.
func plainRow(k int, l []int32) string {
	s := lowest(int64(k), 5)
	for _, x := range l {
		s += plainCode(plainFold(x), k)
	}
	return s
}

// pack is a text of noughts and ones as bytes, with noughts at the end of the last one.
func pack(s string) []byte {
	b := make([]byte, (len(s)+7)/8)
	for i, c := range []byte(s) {
		b[i/8] |= (c - '0') << (7 - i%8)
	}
	return b
}

// digits is the first n bits of bytes as text.
func digits(b []byte, n int) string {
	s := make([]byte, n)
	for i := range s {
		s[i] = '0' + b[i/8]>>(7-i%8)&1
	}
	return string(s)
}

// readerOf reads just the bits of a text: noughts ahead of them, which fill the first byte up, were read.
func readerOf(s string) *bits.Reader {
	ahead := (8 - len(s)%8) % 8
	r := bits.Read(pack(strings.Repeat("0", ahead) + s))
	r.Num(ahead)
	return r
}

// anyNumber is a number of a row, of any size, that looks like any.
func anyNumber(c *rand.Rand) int32 { return (c.Int32N(1<<17) - 1<<16) >> c.IntN(17) }

// anyRow is numbers that look like any: some of one size, some all the same.
func anyRow(c *rand.Rand) []int32 {
	l := make([]int32, c.IntN(40))
	size := 1 + c.Int32N(1<<c.IntN(17))
	for i := range l {
		l[i] = c.Int32N(2*size) - size
		if c.IntN(10) == 0 {
			l[i] = anyNumber(c)
		}
	}
	if len(l) > 0 && c.IntN(8) == 0 {
		for i := range l {
			l[i] = l[0]
		}
	}
	return l
}

// 7.2: the limits.
func TestLimits(t *testing.T) {
	if rice.MaxK != 16 || rice.MaxOnes != 20 || rice.Wide != 17 {
		t.Error(rice.MaxK, rice.MaxOnes, rice.Wide)
	}
}

// 7.1: 0, 1 and -1, the ends, and what is about powers of two.
func TestFoldKnown(t *testing.T) {
	for _, c := range []struct {
		x int32
		n uint32
	}{
		{0, 0}, {-1, 1}, {1, 2}, {-2, 3}, {2, 4}, {-3, 5}, {5, 10}, {-100, 199}, {100, 200},
		{high, 131070}, {low, 131071}, {high + 1, 131072}, {low - 1, 131073},
		{1<<30 - 1, 1<<31 - 2}, {-1 << 30, 1<<31 - 1}, {1 << 30, 1 << 31}, {-1<<30 - 1, 1<<31 + 1},
		{math.MaxInt32 - 1, math.MaxUint32 - 3}, {math.MinInt32 + 1, math.MaxUint32 - 2},
		{math.MaxInt32, math.MaxUint32 - 1}, {math.MinInt32, math.MaxUint32},
	} {
		if n := rice.Fold(c.x); n != c.n {
			t.Error("Fold of", c.x, "is", n)
		}
		if x := rice.Unfold(c.n); x != c.x {
			t.Error("Unfold of", c.n, "is", x)
		}
	}
}

// 7.1: others, there and back, either way.
func TestFoldAny(t *testing.T) {
	c := rand.New(rand.NewPCG(7, 1))
	for range 20000 {
		x, n := int32(c.Uint32())>>c.IntN(32), c.Uint32()>>c.IntN(32)
		if got := rice.Fold(x); int64(got) != plainFold(x) || rice.Unfold(got) != x {
			t.Error(x, got, rice.Unfold(got))
		}
		if got := rice.Unfold(n); plainFold(got) != int64(n) || rice.Fold(got) != n {
			t.Error(n, got, rice.Fold(got))
		}
	}
}

// wrote fails if Put writes anything but a code behind what was written, or Size is not how many bits it has.
func wrote(t *testing.T, n uint32, k int, want string) {
	t.Helper()
	if size := rice.Size(n, k); size != len(want) {
		t.Error("Size of", n, "by", k, "is", size, "not", len(want))
	}
	var w bits.Writer
	w.Num(5, 3)
	rice.Put(&w, n, k)
	w.Bit(true)
	if got := digits(w.Bytes(), w.Len()); got != "101"+want+"1" {
		t.Error("Put of", n, "by", k, "wrote", got, "not 101", want, "1")
	}
}

// 7.2: codes that are known, of a q of 0, 19, 20 and above, and by the parameters 0 and 16.
func TestPutKnown(t *testing.T) {
	ones := strings.Repeat("1", 20)
	for _, c := range []struct {
		n    uint32
		k    int
		want string
	}{
		{0, 0, "0"},
		{1, 0, "10"},
		{2, 0, "110"},
		{19, 0, ones[1:] + "0"},
		{20, 0, ones + "0" + "00000000000010100"},
		{21, 0, ones + "0" + "00000000000010101"},
		{1<<17 - 1, 0, ones + "0" + "11111111111111111"},
		{0, 1, "00"},
		{1, 1, "01"},
		{2, 1, "100"},
		{10, 1, "1111100"},
		{39, 1, ones[1:] + "01"},
		{40, 1, ones + "0" + "00000000000101000"},
		{13, 3, "10101"},
		{81919, 12, ones[1:] + "0111111111111"},
		{81920, 12, ones + "0" + "10100000000000000"},
		{1<<17 - 1, 12, ones + "0" + "11111111111111111"},
		{1<<17 - 1, 13, ones[:15] + "01111111111111"},
		{0, 16, "0" + "0000000000000000"},
		{65535, 16, "0" + "1111111111111111"},
		{65536, 16, "10" + "0000000000000000"},
		{1<<17 - 1, 16, "10" + "1111111111111111"},
		// From 2^17 on the highest bits are lost, where there are 20 ones.
		{1 << 17, 0, ones + "0" + "00000000000000000"},
		{1 << 17, 12, ones + "0" + "00000000000000000"},
		{1 << 17, 13, ones[:16] + "00000000000000"},
		{1<<17 + 5, 16, "110" + "0000000000000101"},
		{20<<16 - 1, 16, ones[1:] + "0" + "1111111111111111"},
		{20 << 16, 16, ones + "0" + "00000000000000000"},
		{math.MaxUint32, 0, ones + "0" + "11111111111111111"},
		{math.MaxUint32, 16, ones + "0" + "11111111111111111"},
	} {
		wrote(t, c.n, c.k, c.want)
	}
}

// 7.2: by each parameter the small numbers, those about which q becomes 20, and such as look like any.
func TestPutAny(t *testing.T) {
	c := rand.New(rand.NewPCG(7, 2))
	for k := range 17 {
		for n := range uint32(100) {
			wrote(t, n, k, plainCode(int64(n), k))
		}
		for q := range uint32(23) {
			for _, n := range []uint32{q << k, q<<k + 1, (q+1)<<k - 1} {
				wrote(t, n, k, plainCode(int64(n), k))
			}
		}
		for range 300 {
			n := c.Uint32() >> c.IntN(32)
			wrote(t, n, k, plainCode(int64(n), k))
		}
	}
}

// R5: by what is no parameter there are no codes.
func TestNoParameter(t *testing.T) {
	for _, k := range far {
		for _, n := range []uint32{0, 1, 1 << 17, math.MaxUint32} {
			wrote(t, n, k, "")
			if got, ok := rice.Get(bits.Read(make([]byte, 40)), k); got != 0 || ok {
				t.Error(k, got, ok)
			}
		}
	}
}

// isNext fails if Get does not read a number, just to the end of its code.
func isNext(t *testing.T, s string, k int, want uint32) {
	t.Helper()
	r := bits.Read(pack("101" + s + "1"))
	r.Num(3)
	if n, ok := rice.Get(r, k); n != want || !ok {
		t.Error(s, "by", k, "is", n, ok, "not", want)
	}
	if r.At() != 3+len(s) || !r.Bit() {
		t.Error(s, "by", k, "was read to", r.At())
	}
	last := readerOf(s)
	if n, ok := rice.Get(last, k); n != want || !ok || last.Left() != 0 {
		t.Error(s, "by", k, "as the last one is", n, ok)
	}
}

// isNone fails if Get reads any number.
func isNone(t *testing.T, s string, k int) {
	t.Helper()
	if n, ok := rice.Get(readerOf(s), k); n != 0 || ok {
		t.Error(s, "by", k, "is", n, ok)
	}
}

// 7.2: the number whose code comes next is read.
func TestGetKnown(t *testing.T) {
	ones := strings.Repeat("1", 20)
	isNext(t, "0", 0, 0)
	isNext(t, "1110", 0, 3)
	isNext(t, ones[1:]+"0", 0, 19)
	isNext(t, ones+"0"+"00000000000010100", 0, 20)
	isNext(t, ones+"0"+"11111111111111111", 0, 1<<17-1)
	isNext(t, ones[1:]+"01", 1, 39)
	isNext(t, ones+"0"+"00000000000101000", 1, 40)
	isNext(t, ones+"0"+"10100000000000000", 12, 81920)
	isNext(t, ones[:15]+"01111111111111", 13, 1<<17-1)
	isNext(t, "0"+"0000000000000000", 16, 0)
	isNext(t, "10"+"1111111111111111", 16, 1<<17-1)
}

// 7.2: bits that end inside of a code are none, wherever they end.
func TestGetEnds(t *testing.T) {
	c := rand.New(rand.NewPCG(7, 3))
	for k := range 17 {
		all := []uint32{0, 1, 1<<k - 1, 1 << k, 19 << k, 20 << k, 1<<17 - 1}
		for range 20 {
			all = append(all, c.Uint32N(1<<17)>>c.IntN(17))
		}
		for _, n := range all {
			s := plainCode(int64(n), k)
			for i := range len(s) {
				isNone(t, s[:i], k)
			}
		}
	}
}

// 7.2: 20 ones with no nought behind them are none, even where one comes later.
func TestGetOnes(t *testing.T) {
	for k := range 17 {
		for _, n := range []int{21, 22, 30, 40} {
			isNone(t, strings.Repeat("1", n), k)
			isNone(t, strings.Repeat("1", n)+"0"+strings.Repeat("1", 40), k)
			isNone(t, strings.Repeat("1", n)+strings.Repeat("0", 40), k)
		}
	}
}

// 7.2: behind 20 ones a number that has a shorter code is none.
func TestGetShorter(t *testing.T) {
	ones := strings.Repeat("1", 20) + "0"
	for k := range 17 {
		for n := int64(0); n < 1<<17; n += 1 + n/50 {
			switch s := ones + lowest(n, 17); {
			case n>>k < 20:
				isNone(t, s, k)
			default:
				isNext(t, s, k, uint32(n))
			}
		}
	}
	isNone(t, ones+lowest(19, 17), 0)
	isNone(t, ones+lowest(81919, 17), 12)
	isNone(t, ones+lowest(1<<17-1, 17), 13)
	isNone(t, ones+lowest(1<<17-1, 17), 16)
}

// 7.2: a number from 2^17 on is none, though there are as many ones and bits.
func TestGetGreat(t *testing.T) {
	for k := range 17 {
		for q := range 20 {
			s := strings.Repeat("1", q) + "0"
			least, most := uint32(q)<<k, uint32(q+1)<<k-1
			if least >= 1<<17 {
				isNone(t, s+strings.Repeat("0", k), k)
				isNone(t, s+strings.Repeat("1", k), k)
				continue
			}
			isNext(t, s+strings.Repeat("0", k), k, least)
			isNext(t, s+strings.Repeat("1", k), k, most)
		}
	}
	isNone(t, "110"+"0000000000000000", 16)
}

// 7.2: a reader of which something was wrong tells no number.
func TestGetWrong(t *testing.T) {
	for k := range 17 {
		r := bits.Read(make([]byte, 10))
		r.Num(-1)
		if n, ok := rice.Get(r, k); n != 0 || ok {
			t.Error(k, n, ok)
		}
		if l, ok := rice.IsRow(r, 0); l != nil || ok {
			t.Error(l, ok)
		}
	}
}

// 7.3: the best parameter of rows that are known: where two are as good, the least one.
func TestBestKnown(t *testing.T) {
	for _, c := range []struct {
		l    []int32
		k, n int
	}{
		{nil, 0, 0},
		{[]int32{}, 0, 0},
		{[]int32{0}, 0, 1},
		{[]int32{0, 0, 0, 0}, 0, 4},
		// By 0 and by 1 two bits each.
		{[]int32{-1}, 0, 2},
		{[]int32{-1, -1, -1}, 0, 6},
		// By 0 and by 1 three bits.
		{[]int32{1}, 0, 3},
		{[]int32{-2}, 1, 3},
		// By 1 and by 2 four bits each.
		{[]int32{2}, 1, 4},
		{[]int32{0, -1, 1, 5}, 1, 14},
		// The one that is far away has 38 bits by 0, and fewer from 4 on, where the others have more.
		{[]int32{0, 0, 0, 0, 0, 0, 0, 0, 0, 0, 100}, 0, 48},
		// By 5 and by 6 as many.
		{[]int32{0, 0, 100}, 5, 24},
		// By 15 and by 16 as many.
		{[]int32{low / 2}, 15, 17},
		{[]int32{low}, 16, 18},
		{[]int32{high}, 16, 18},
		{[]int32{high, low}, 16, 36},
	} {
		if k, n := rice.Best(c.l); k != c.k || n != c.n {
			t.Error(c.l, k, n)
		}
	}
}

// 7.3: the best parameter of rows that look like any, and of one number over and over.
func TestBestAny(t *testing.T) {
	found := map[int]bool{}
	best := func(l []int32) {
		t.Helper()
		kept := slices.Clone(l)
		want, wantSize := plainBest(l)
		if k, n := rice.Best(l); k != want || n != wantSize {
			t.Error(l, k, n, want, wantSize)
		}
		if !slices.Equal(l, kept) {
			t.Error(kept, "became", l)
		}
		found[want] = true
	}
	c := rand.New(rand.NewPCG(7, 4))
	for range 500 {
		best(anyRow(c))
		best(slices.Repeat([]int32{anyNumber(c)}, 1+c.IntN(20)))
	}
	if len(found) < 15 {
		t.Error("few parameters were the best ones:", found)
	}
}

// rows is rows of none, of one, of many, of the same number over and over, and of the ends.
func rows() [][]int32 {
	all := [][]int32{
		nil, {0}, {-1}, {1}, {5}, {low}, {high}, {low, high}, {high, low}, {0, low}, {0, high, 0, -1},
		{0, -1, 1, 5}, slices.Repeat([]int32{0}, 256), slices.Repeat([]int32{-300}, 256),
		slices.Repeat([]int32{low}, 100), slices.Repeat([]int32{high, 0}, 100),
	}
	c := rand.New(rand.NewPCG(7, 5))
	for range 200 {
		all = append(all, anyRow(c))
	}
	return all
}

// 7.3: a row is the best parameter in five bits, and the codes by it.
func TestRow(t *testing.T) {
	for _, l := range rows() {
		kept := slices.Clone(l)
		k, size := plainBest(l)
		want := plainRow(k, l)
		var w bits.Writer
		w.Bit(true)
		rice.Row(&w, l)
		if w.Len() != 1+5+size {
			t.Error(l, w.Len(), size)
		}
		w.Bit(true)
		if got := digits(w.Bytes(), w.Len()); got != "1"+want+"1" {
			t.Error(l, got, want)
		}
		if !slices.Equal(l, kept) {
			t.Error(kept, "became", l)
		}
	}
}

// 7.3: of no numbers there are five noughts.
func TestRowOfNone(t *testing.T) {
	var w bits.Writer
	rice.Row(&w, nil)
	if w.Len() != 5 || w.Bytes()[0] != 0 {
		t.Error(w.Len(), w.Bytes())
	}
	if l, ok := rice.IsRow(bits.Read([]byte{0}), 0); len(l) != 0 || !ok {
		t.Error(l, ok)
	}
}

// isRow fails if bits are not just a row of numbers.
func isRow(t *testing.T, s string, want []int32) {
	t.Helper()
	r := readerOf(s)
	l, ok := rice.IsRow(r, len(want))
	if !ok || !slices.Equal(l, want) || !r.Right() || r.Left() != 0 {
		t.Error(s, "is", l, ok, "not", want)
	}
}

// isNoRow fails if bits begin with a row of so many numbers.
func isNoRow(t *testing.T, s string, n int) {
	t.Helper()
	if l, ok := rice.IsRow(readerOf(s), n); l != nil || ok {
		t.Error(s, "is", l, ok)
	}
}

// 7.3: a row is read, just to its end.
func TestIsRow(t *testing.T) {
	for _, l := range rows() {
		k, _ := plainBest(l)
		s := plainRow(k, l)
		isRow(t, s, l)
		r := bits.Read(pack("10" + s + "1"))
		r.Num(2)
		if got, ok := rice.IsRow(r, len(l)); !ok || !slices.Equal(got, l) || r.At() != 2+len(s) || !r.Bit() {
			t.Error(l, got, ok, r.At())
		}
	}
}

// 7.3: bits that end inside of the five, or of a code, are no row.
func TestIsRowEnds(t *testing.T) {
	for i := range 5 {
		isNoRow(t, "00000"[:i], 0)
		isNoRow(t, "00000"[:i], 1)
	}
	for _, l := range rows() {
		k, _ := plainBest(l)
		s := plainRow(k, l)
		step := 1 + len(s)/200
		for i := 0; i < len(s); i += step {
			isNoRow(t, s[:i], len(l))
		}
		isNoRow(t, s[:len(s)-1], len(l))
	}
}

// 7.3: a parameter above 16 is none, even for no numbers.
func TestIsRowParameter(t *testing.T) {
	for k := 17; k < 32; k++ {
		for n := range 4 {
			isNoRow(t, lowest(int64(k), 5)+strings.Repeat("0", 200), n)
			isNoRow(t, lowest(int64(k), 5), n)
		}
	}
}

// 7.3: a parameter that is not the best one, or not the least of those, is none.
func TestIsRowNotBest(t *testing.T) {
	for _, l := range rows() {
		best, _ := plainBest(l)
		for k := range 17 {
			if s := plainRow(k, l); k == best {
				isRow(t, s, l)
			} else {
				isNoRow(t, s, len(l))
			}
		}
	}
	isNoRow(t, "00001"+"01", 1)  // -1 by 1 has two bits, as by 0
	isNoRow(t, "00001"+"100", 1) // 1 by 1 has three bits, as by 0
	isNoRow(t, "00001", 0)       // none has no bits, by any
	isRow(t, "00000"+"10", []int32{-1})
	isRow(t, "00000"+"110", []int32{1})
}

// 7.3: more numbers than are there are no row, however many; fewer are one just if theirs comes next.
func TestIsRowCount(t *testing.T) {
	s := plainRow(1, []int32{0, -1, 1, 5})
	for _, n := range []int{5, 6, 100, 1 << 30, 1 << 40, math.MaxInt, -1, -4, math.MinInt} {
		isNoRow(t, s, n)
	}
	for n := range 4 {
		// Of the numbers ahead of the 5 the best parameter is 0.
		isNoRow(t, s, n)
	}
	isNoRow(t, "00000", -1)
	isNoRow(t, "00000", 1)
	same := plainRow(0, []int32{0, 0, 0})
	for n := range 4 {
		r := readerOf(same)
		if l, ok := rice.IsRow(r, n); !ok || !slices.Equal(l, make([]int32, n)) || r.Left() != 3-n {
			t.Error(n, l, ok, r.Left())
		}
	}
	isNoRow(t, same, 4)
}

// 7.3: a code that is none in a row makes it none.
func TestIsRowCodes(t *testing.T) {
	ones := strings.Repeat("1", 20)
	isNoRow(t, "00000"+ones+"0"+lowest(19, 17), 1)
	isNoRow(t, "00000"+"10"+ones+"1"+"0"+lowest(50, 17), 2)
	isNoRow(t, "01111"+"11110"+lowest(0, 15), 1)
	isNoRow(t, "10000"+"110"+lowest(0, 16), 1)
	// The last number that has just room.
	isRow(t, "10000"+"10"+lowest(1<<16-1, 16), []int32{low})
}

// R3: what was read is new memory.
func TestIsRowIsNew(t *testing.T) {
	s := plainRow(1, []int32{0, -1, 1, 5})
	one, _ := rice.IsRow(readerOf(s), 4)
	two, _ := rice.IsRow(readerOf(s), 4)
	one[3] = 9
	if two[3] != 5 {
		t.Error(two)
	}
}

// 7.4: each number below 2^17 is the same, there and back, by each parameter.
func TestThereAndBackNumbers(t *testing.T) {
	for k := range 17 {
		var w bits.Writer
		size := 0
		for n := range uint32(1 << 17) {
			rice.Put(&w, n, k)
			size += rice.Size(n, k)
		}
		if w.Len() != size {
			t.Error(k, w.Len(), size)
		}
		r := bits.Read(w.Bytes())
		for n := range uint32(1 << 17) {
			if got, ok := rice.Get(r, k); got != n || !ok {
				t.Fatal(k, n, got, ok)
			}
		}
		if !r.Close() {
			t.Error(k, r.Left())
		}
	}
}

// 7.4: rows are the same, there and back, one behind the other.
func TestThereAndBackRows(t *testing.T) {
	var w bits.Writer
	for _, l := range rows() {
		rice.Row(&w, l)
	}
	r := bits.Read(w.Bytes())
	for _, want := range rows() {
		if l, ok := rice.IsRow(r, len(want)); !ok || !slices.Equal(l, want) {
			t.Fatal(want, l, ok)
		}
	}
	if !r.Close() {
		t.Error(r.Left())
	}
}

// 7.4: any bits that are read as a number are just its code.
func TestOneWayNumbers(t *testing.T) {
	c := rand.New(rand.NewPCG(7, 6))
	for range 50000 {
		b := pack(strings.Repeat("1", c.IntN(23)) + "0" + lowest(c.Int64N(1<<40), 40))
		k := c.IntN(17)
		r := bits.Read(b)
		n, ok := rice.Get(r, k)
		if !ok {
			continue
		}
		if s := plainCode(int64(n), k); n >= 1<<17 || digits(b, r.At()) != s {
			t.Error(digits(b, r.At()), n, k, s)
		}
	}
}

// 7.4: of all bits, as many as two bytes have, those that are read as a row are just what Row writes.
func TestOneWayRows(t *testing.T) {
	read := 0
	for x := range 1 << 16 {
		b := []byte{byte(x >> 8), byte(x)}
		for n := range 6 {
			r := bits.Read(b)
			l, ok := rice.IsRow(r, n)
			if !ok {
				continue
			}
			read++
			var w bits.Writer
			rice.Row(&w, l)
			if len(l) != n || w.Len() != r.At() || digits(w.Bytes(), w.Len()) != digits(b, w.Len()) {
				t.Fatal(b, l)
			}
		}
	}
	if read < 10000 {
		t.Error("few rows were read:", read)
	}
}

// Example 1: the parameter 1, and 14 bits behind it.
func TestExample(t *testing.T) {
	l := []int32{0, -1, 1, 5}
	if k, n := rice.Best(l); k != 1 || n != 14 {
		t.Error(k, n)
	}
	var w bits.Writer
	rice.Row(&w, l)
	if s := digits(w.Bytes(), w.Len()); s != "00001"+"00"+"01"+"100"+"1111100" {
		t.Error(s)
	}
}
