package tile_test

import (
	"bytes"
	"math"
	"math/rand/v2"
	"slices"
	"testing"

	"theodolite/api"
	"theodolite/bits"
	"theodolite/rice"
	"theodolite/tile"
)

// sides is how many columns or rows fields of the tests have: the ends, and what is about a tile's end.
var sides = []int{2, 3, 15, 16, 17, 31, 32, 33, 40, 100, 255, 256}

// fewSides is some of these, for what is done at each place.
var fewSides = []int{2, 16, 17, 40, 256}

// noSides is how many columns or rows no field has.
var noSides = []int{math.MinInt, -256, -2, -1, 0, 1, 257, 258, 1 << 16, 1 << 32, math.MaxInt}

// noTile is how many columns or rows no tile has.
var noTile = []int{math.MinInt, -16, -2, -1, 0, 17, 18, 32, 256, 1 << 32, math.MaxInt}

// farPlaces is columns or rows of tiles that no field has; sixteen times some of them would be on a field, if it wrapped.
var farPlaces = []int{math.MinInt, math.MinInt + 1, -1 << 60, -1 << 59, -17, -2, -1, 17, 1 << 28, 1 << 32, 1 << 59, 1 << 60, 1<<60 + 1, 1 << 61, math.MaxInt}

// anyHeight is a height that looks like any; often one of the ends, which api.Void is, too.
func anyHeight(c *rand.Rand) int16 {
	switch c.IntN(8) {
	case 0:
		return api.Void
	case 1:
		return math.MaxInt16
	}
	return int16(c.Uint32()) >> c.IntN(16)
}

// anyHeights is heights that look like any: some far apart, some near to each other, some all the same.
func anyHeights(c *rand.Rand, n int) []int16 {
	z := make([]int16, n)
	kind, first, step := c.IntN(3), anyHeight(c), 1+c.IntN(30)
	for i := range z {
		switch kind {
		case 0:
			z[i] = anyHeight(c)
		case 1:
			z[i] = int16(c.IntN(step) + 800)
		default:
			z[i] = first
		}
	}
	return z
}

// ground is a field in which each height tells its column and row, no two are the same, and some are below 0.
func ground(w, h int) api.Heights {
	f := api.Heights{W: w, H: h}
	for y := range h {
		for x := range w {
			f.Z = append(f.Z, int16(y*256+x-1000))
		}
	}
	return f
}

// part is 8.1's tile, height by height: all that lie in its columns and rows.
func part(f api.Heights, p tile.Place) []int16 {
	var z []int16
	for i, height := range f.Z {
		if isIn(f.W, i, p) {
			z = append(z, height)
		}
	}
	return z
}

// isIn tells whether the i-th height of a field lies in a tile.
func isIn(w, i int, p tile.Place) bool { return i%w/16 == p.X && i/w/16 == p.Y }

// places is all places of a field's tiles, and some that are none.
func places(w, h int) []tile.Place {
	var l []tile.Place
	for y := -1; y <= (h+15)/16; y++ {
		for x := -1; x <= (w+15)/16; x++ {
			l = append(l, tile.Place{X: x, Y: y})
		}
	}
	for _, far := range farPlaces {
		l = append(l, tile.Place{X: far}, tile.Place{Y: far}, tile.Place{X: far, Y: far})
	}
	return l
}

// rises is 8.3's numbers of a tile, told by columns and rows.
func rises(w, h int, z []int16) []int32 {
	at := func(x, y int) int32 { return int32(z[y*w+x]) }
	var l []int32
	for y := range h {
		for x := range w {
			switch {
			case x > 0:
				l = append(l, at(x, y)-at(x-1, y))
			case y > 0:
				l = append(l, at(0, y)-at(0, y-1))
			default:
				l = append(l, at(0, 0))
			}
		}
	}
	return l
}

// row is numbers as a rice.Row, with noughts at the end of the last byte.
func row(l ...int32) []byte {
	var w bits.Writer
	rice.Row(&w, l)
	return w.Bytes()
}

// rowBy is numbers as a rice.Row would have them by some parameter.
func rowBy(k int, l []int32) []byte {
	var w bits.Writer
	w.Num(uint64(k), 5)
	for _, x := range l {
		rice.Put(&w, rice.Fold(x), k)
	}
	return w.Bytes()
}

// 8.1: the limit.
func TestSide(t *testing.T) {
	if tile.Side != 16 {
		t.Error(tile.Side)
	}
}

// 8.1: fields of 2 to 256 columns and rows.
func TestCheck(t *testing.T) {
	for _, w := range sides {
		for _, h := range sides {
			if code := tile.Check(ground(w, h)); code != api.OK {
				t.Error(w, h, code)
			}
		}
	}
}

// 8.1: W or H that are not from 2 to 256, even where Z are W times H, and ahead of those that are not.
func TestCheckRange(t *testing.T) {
	isRange := func(w, h, n int) {
		t.Helper()
		if code := tile.Check(api.Heights{W: w, H: h, Z: make([]int16, n)}); code != api.ErrRange {
			t.Error(w, h, n, code)
		}
	}
	for _, wrong := range noSides {
		for _, right := range sides {
			for _, n := range []int{0, 1, right, 1 << 16} {
				isRange(wrong, right, n)
				isRange(right, wrong, n)
			}
		}
		for _, other := range noSides {
			isRange(wrong, other, 0)
		}
	}
	isRange(1, 2, 2)
	isRange(2, 1, 2)
	isRange(257, 2, 514)
	isRange(2, 257, 514)
	isRange(-2, -2, 4)
	isRange(0, 0, 0)
	if code := tile.Check(api.Heights{}); code != api.ErrRange {
		t.Error(code)
	}
}

// 8.1: Z that are none, too few, or too many; how much room is behind them is not asked for.
func TestCheckSize(t *testing.T) {
	for _, w := range sides {
		for _, h := range sides {
			room := make([]int16, w*h+w+1)
			for _, n := range []int{0, 1, w*h - w, w*h - 1, w*h + 1, w*h + w} {
				if n == w*h {
					continue
				}
				if code := tile.Check(api.Heights{W: w, H: h, Z: room[:n]}); code != api.ErrSize {
					t.Error(w, h, n, code)
				}
			}
			if code := tile.Check(api.Heights{W: w, H: h}); code != api.ErrSize {
				t.Error(w, h, code)
			}
		}
	}
}

// 8.1: how many tiles there are along some heights: none along none.
func TestCount(t *testing.T) {
	for n, want := range map[int]int{0: 0, 1: 1, 15: 1, 16: 1, 17: 2, 32: 2, 33: 3, 255: 16, 256: 16, 257: 17, math.MaxInt - 15: 1<<59 - 1, math.MaxInt - 14: 1 << 59, math.MaxInt: 1 << 59} {
		if got := tile.Count(n); got != want {
			t.Error(n, got, want)
		}
	}
	want := 0
	for n := range 2000 {
		if got := tile.Count(n); got != want {
			t.Error(n, got, want)
		}
		if n%16 == 0 {
			want++
		}
	}
}

// R5: along fewer heights than none there is no tile.
func TestCountBelow(t *testing.T) {
	for _, n := range []int{-1, -15, -16, -17, -256, math.MinInt} {
		if got := tile.Count(n); got != 0 {
			t.Error(n, got)
		}
	}
}

// isBox fails if a tile does not lie there.
func isBox(t *testing.T, w, h int, p tile.Place, want [4]int) {
	t.Helper()
	x, y, cols, rows := tile.Box(w, h, p)
	if got := [4]int{x, y, cols, rows}; got != want {
		t.Error(w, h, p, got, want)
	}
}

// 8.1: the first tile, the last one of sides that are multiples of 16 and that are not, and beyond it.
func TestBoxKnown(t *testing.T) {
	isBox(t, 40, 20, tile.Place{X: 2, Y: 1}, [4]int{32, 16, 8, 4})
	isBox(t, 40, 20, tile.Place{}, [4]int{0, 0, 16, 16})
	isBox(t, 40, 20, tile.Place{X: 3, Y: 1}, [4]int{})
	isBox(t, 40, 20, tile.Place{X: 2, Y: 2}, [4]int{})
	isBox(t, 40, 20, tile.Place{X: 1, Y: 2}, [4]int{})
	isBox(t, 2, 2, tile.Place{}, [4]int{0, 0, 2, 2})
	isBox(t, 2, 256, tile.Place{Y: 15}, [4]int{0, 240, 2, 16})
	isBox(t, 256, 2, tile.Place{X: 15}, [4]int{240, 0, 16, 2})
	isBox(t, 256, 256, tile.Place{X: 15, Y: 15}, [4]int{240, 240, 16, 16})
	isBox(t, 256, 256, tile.Place{X: 16, Y: 15}, [4]int{})
	isBox(t, 256, 256, tile.Place{X: 15, Y: 16}, [4]int{})
	isBox(t, 32, 48, tile.Place{X: 1, Y: 2}, [4]int{16, 32, 16, 16})
	isBox(t, 32, 48, tile.Place{X: 2, Y: 2}, [4]int{})
	isBox(t, 17, 33, tile.Place{X: 1, Y: 2}, [4]int{16, 32, 1, 1})
	isBox(t, 255, 31, tile.Place{X: 15, Y: 1}, [4]int{240, 16, 15, 15})
}

// 8.1: all tiles of a field, and places where there is none, held against the heights that lie in them.
func TestBox(t *testing.T) {
	for _, w := range sides {
		for _, h := range sides {
			for _, p := range places(w, h) {
				want := [4]int{}
				for i := range w * h {
					switch {
					case !isIn(w, i, p):
					case want == [4]int{}:
						want = [4]int{i % w, i / w, 1, 1}
					default:
						want[2], want[3] = i%w-want[0]+1, i/w-want[1]+1
					}
				}
				if p.X < 0 || p.Y < 0 {
					want = [4]int{}
				}
				isBox(t, w, h, p, want)
			}
		}
	}
}

// R5: no field, no tile.
func TestBoxOfNoField(t *testing.T) {
	for _, wrong := range noSides {
		for _, right := range sides {
			isBox(t, wrong, right, tile.Place{}, [4]int{})
			isBox(t, right, wrong, tile.Place{}, [4]int{})
			isBox(t, wrong, wrong, tile.Place{}, [4]int{})
		}
	}
}

// 8.1: places are told apart by column and row.
func TestPlace(t *testing.T) {
	if (tile.Place{X: 1, Y: 2}) != (tile.Place{1, 2}) || (tile.Place{X: 1}) == (tile.Place{Y: 1}) {
		t.Error("places")
	}
}

// 8.2: each tile of a field is its heights, row by row; where there is no tile there are none.
func TestCut(t *testing.T) {
	for _, w := range sides {
		for _, h := range sides {
			f := ground(w, h)
			for _, p := range places(w, h) {
				if got, want := tile.Cut(f, p), part(f, p); !slices.Equal(got, want) {
					t.Fatal(w, h, p, got, want)
				}
			}
			if !slices.Equal(f.Z, ground(w, h).Z) {
				t.Error(w, h, "the field has changed")
			}
		}
	}
}

// 8.2: a tile of few heights, told one by one.
func TestCutKnown(t *testing.T) {
	f := ground(18, 19)
	if got := tile.Cut(f, tile.Place{X: 1, Y: 1}); !slices.Equal(got, []int16{3112, 3113, 3368, 3369, 3624, 3625}) {
		t.Error(got)
	}
	if got := tile.Cut(f, tile.Place{X: 2, Y: 1}); len(got) != 0 {
		t.Error(got)
	}
}

// 8.2 and R3: what is cut is new memory, and nothing behind the field is read.
func TestCutIsNew(t *testing.T) {
	room := append(ground(20, 20).Z, 7, 7, 7)
	f := api.Heights{W: 20, H: 20, Z: room[:400]}
	p := tile.Place{X: 1, Y: 1}
	want := part(f, p)
	one, two := tile.Cut(f, p), tile.Cut(f, p)
	for i := range one {
		one[i] = 9
	}
	if one = append(one, 9); !slices.Equal(two, want) || !slices.Equal(f.Z, ground(20, 20).Z) {
		t.Error(two, f.Z)
	}
	if !slices.Equal(room[400:], []int16{7, 7, 7}) {
		t.Error(room[400:])
	}
}

// R5: of no field there is no tile.
func TestCutOfNoField(t *testing.T) {
	for _, f := range []api.Heights{
		{}, {W: 1, H: 1, Z: make([]int16, 1)}, {W: 2, H: 2}, {W: 2, H: 2, Z: make([]int16, 3)}, {W: 2, H: 2, Z: make([]int16, 5)},
		{W: -2, H: -2, Z: make([]int16, 4)}, {W: 257, H: 2, Z: make([]int16, 514)}, {W: 1 << 32, H: 1 << 32},
	} {
		if z := tile.Cut(f, tile.Place{}); len(z) != 0 {
			t.Error(f, z)
		}
	}
}

// known is tiles of which the bits are told one by one.
var known = []struct {
	w, h int
	z    []int16
	b    []byte
}{
	{1, 1, []int16{0}, []byte{0b00000_0_00}},
	// 5 is folded to 10, that has five bits by 2, by 3 and by 4.
	{1, 1, []int16{5}, []byte{0b00010_110, 0b10_000000}},
	// -32768 is folded to 65535, that has 17 bits by 15 and by 16.
	{1, 1, []int16{api.Void}, []byte{0b01111_10_1, 0b11111111, 0b111111_00}},
	// 32767 and -65535 are folded to 65534 and 131069.
	{2, 1, []int16{32767, api.Void}, []byte{0b10000_0_11, 0b11111111, 0b111110_10, 0b11111111, 0b11111101}},
	// 0, -1, 1 (above the first one), 5.
	{2, 2, []int16{0, -1, 1, 6}, []byte{0b00001_00_0, 0b1_100_1111, 0b100_00000}},
	// The same rises, lying and standing.
	{4, 1, []int16{0, -1, 0, 5}, []byte{0b00001_00_0, 0b1_100_1111, 0b100_00000}},
	{1, 4, []int16{0, -1, 0, 5}, []byte{0b00001_00_0, 0b1_100_1111, 0b100_00000}},
}

// 8.3: tiles of which the bits are known, there and back.
func TestKnown(t *testing.T) {
	for _, c := range known {
		if b, code := tile.Put(c.w, c.h, c.z); !bytes.Equal(b, c.b) || code != api.OK {
			t.Errorf("%v: %08b, not %08b, %d", c.z, b, c.b, code)
		}
		if z, code := tile.Get(c.w, c.h, c.b); !slices.Equal(z, c.z) || code != api.OK {
			t.Error(z, c.z, code)
		}
	}
}

// 8.3: each height is told by the one to its left, the first one of a row by the first one of the row ahead.
func TestPut(t *testing.T) {
	c := rand.New(rand.NewPCG(8, 1))
	for w := 1; w <= 16; w++ {
		for h := 1; h <= 16; h++ {
			for range 5 {
				z := anyHeights(c, w*h)
				kept := slices.Clone(z)
				b, code := tile.Put(w, h, z)
				if want := row(rises(w, h, z)...); code != api.OK || !bytes.Equal(b, want) {
					t.Fatal(w, h, z, b, want, code)
				}
				if !slices.Equal(z, kept) {
					t.Fatal(kept, "became", z)
				}
			}
		}
	}
}

// isNoPut fails if so many columns and rows, and heights, are put.
func isNoPut(t *testing.T, w, h int, z []int16) {
	t.Helper()
	if b, code := tile.Put(w, h, z); len(b) != 0 || code != api.ErrSize {
		t.Error(w, h, len(z), b, code)
	}
}

// 8.3: w or h that are not from 1 to 16, even where z are w times h.
func TestPutSides(t *testing.T) {
	for _, wrong := range noTile {
		for right := 1; right <= 16; right++ {
			for _, n := range []int{0, 1, right, 17 * right, 256} {
				isNoPut(t, wrong, right, make([]int16, n))
				isNoPut(t, right, wrong, make([]int16, n))
			}
		}
		isNoPut(t, wrong, wrong, nil)
	}
	isNoPut(t, -2, -3, make([]int16, 6))
	isNoPut(t, 17, 1, make([]int16, 17))
	isNoPut(t, 1, 17, make([]int16, 17))
	isNoPut(t, 32, 8, make([]int16, 256))
	isNoPut(t, 0, 0, nil)
}

// 8.3: z that are none, one too few, or one too many, whatever room is behind them.
func TestPutSize(t *testing.T) {
	room := make([]int16, 300)
	for w := 1; w <= 16; w++ {
		for h := 1; h <= 16; h++ {
			isNoPut(t, w, h, nil)
			isNoPut(t, w, h, room[:w*h-1])
			isNoPut(t, w, h, room[:w*h+1])
		}
	}
}

// 8.3 and R3: what lies behind the heights makes nothing else of them, and what is put is new memory.
func TestPutIsNew(t *testing.T) {
	room := []int16{3, 1, 4, 1, 5, 9}
	one, _ := tile.Put(2, 2, room[:4])
	want := row(3, -2, 1, -3)
	two, _ := tile.Put(2, 2, []int16{3, 1, 4, 1, 2}[:4])
	one[0]++
	one = append(one, 1)
	if !bytes.Equal(two, want) || !slices.Equal(room, []int16{3, 1, 4, 1, 5, 9}) {
		t.Error(two, want, room)
	}
}

// isNoGet fails if bytes are a tile, or are refused by another code.
func isNoGet(t *testing.T, w, h int, b []byte, want api.Code) {
	t.Helper()
	if z, code := tile.Get(w, h, b); len(z) != 0 || code != want {
		t.Error(w, h, b, z, code, want)
	}
}

// 8.3: w or h that are not from 1 to 16, whatever bytes there are.
func TestGetSides(t *testing.T) {
	for _, wrong := range noTile {
		for right := 1; right <= 16; right++ {
			for _, b := range [][]byte{nil, {0}, {0xff}, row(make([]int32, right)...), row(make([]int32, 17*right)...)} {
				isNoGet(t, wrong, right, b, api.ErrSize)
				isNoGet(t, right, wrong, b, api.ErrSize)
			}
		}
		isNoGet(t, wrong, wrong, nil, api.ErrSize)
	}
	isNoGet(t, -2, -3, row(make([]int32, 6)...), api.ErrSize)
	isNoGet(t, 17, 1, row(make([]int32, 17)...), api.ErrSize)
	isNoGet(t, 0, 0, row(), api.ErrSize)
	isNoGet(t, 0, 5, row(), api.ErrSize)
}

// 8.3: bytes that are none, too few, or too many.
func TestGetLength(t *testing.T) {
	c := rand.New(rand.NewPCG(8, 2))
	for range 300 {
		w, h := 1+c.IntN(16), 1+c.IntN(16)
		b, _ := tile.Put(w, h, anyHeights(c, w*h))
		for i := range b {
			isNoGet(t, w, h, b[:i], api.ErrForm)
		}
		isNoGet(t, w, h, nil, api.ErrForm)
		isNoGet(t, w, h, append(slices.Clone(b), 0), api.ErrForm)
		isNoGet(t, w, h, append(slices.Clone(b), 0x80), api.ErrForm)
		isNoGet(t, w, h, append(slices.Clone(b), 0, 0, 0), api.ErrForm)
	}
}

// 8.3: a bit at the end of the last byte that is not 0.
func TestGetEnd(t *testing.T) {
	c := rand.New(rand.NewPCG(8, 3))
	found := map[int]bool{}
	for range 300 {
		w, h := 1+c.IntN(16), 1+c.IntN(16)
		z := anyHeights(c, w*h)
		b, _ := tile.Put(w, h, z)
		_, size := rice.Best(rises(w, h, z))
		for i := 5 + size; i < 8*len(b); i++ {
			more := slices.Clone(b)
			more[i/8] |= 0x80 >> (i % 8)
			isNoGet(t, w, h, more, api.ErrForm)
			found[i%8] = true
		}
	}
	if len(found) != 7 {
		t.Error("not each bit was tried:", found)
	}
}

// 8.3: numbers of which a rice.Row is written otherwise: by another parameter, or by none.
func TestGetParameter(t *testing.T) {
	c := rand.New(rand.NewPCG(8, 4))
	for range 200 {
		w, h := 1+c.IntN(16), 1+c.IntN(16)
		z := anyHeights(c, w*h)
		l := rises(w, h, z)
		best, _ := rice.Best(l)
		for k := range 17 {
			if k != best {
				isNoGet(t, w, h, rowBy(k, l), api.ErrForm)
			}
		}
	}
	for k := 17; k < 32; k++ {
		isNoGet(t, 1, 1, []byte{byte(k << 3), 0, 0, 0}, api.ErrForm)
	}
	isNoGet(t, 1, 1, []byte{0xff, 0xff, 0xff, 0xff}, api.ErrForm)
}

// 8.3: the numbers of a tile that has more or fewer heights.
func TestGetOther(t *testing.T) {
	ten := row(5, -5, 5, -5, 5, -5, 5, -5, 5, -5)
	if z, code := tile.Get(5, 2, ten); code != api.OK || len(z) != 10 {
		t.Fatal(z, code)
	}
	for w := 1; w <= 16; w++ {
		for h := 1; h <= 16; h++ {
			if w*h != 10 {
				isNoGet(t, w, h, ten, api.ErrForm)
			}
		}
	}
}

// 8.3: a height that is not from -32768 to 32767, wherever, even if the last one is again.
func TestGetRange(t *testing.T) {
	for _, c := range []struct {
		w, h int
		l    []int32
	}{
		{1, 1, []int32{32768}},
		{1, 1, []int32{-32769}},
		{1, 1, []int32{65535}},
		{1, 1, []int32{-65536}},
		{2, 1, []int32{32767, 1}},
		{2, 1, []int32{-32768, -1}},
		{2, 1, []int32{1, -65536}},
		{2, 1, []int32{1, 65535}},
		{1, 2, []int32{32767, 1}},
		{1, 2, []int32{-32768, -1}},
		{3, 1, []int32{32767, 1, -1}},
		{3, 1, []int32{-32768, -1, 1}},
		{1, 3, []int32{32768, -65536, 32768}},
		{2, 2, []int32{32767, -65535, 1, 0}},
		{2, 2, []int32{32767, -65535, 0, 1}},
		{2, 2, []int32{-32768, 65535, -1, 0}},
		{2, 2, []int32{-32768, 65535, 65535, 1}},
		// The last height is 31 times that.
		{16, 16, slices.Repeat([]int32{1058}, 256)},
		{16, 16, slices.Repeat([]int32{-1058}, 256)},
		{16, 16, slices.Repeat([]int32{65535}, 256)},
		{16, 16, slices.Repeat([]int32{-65536}, 256)},
		{16, 16, append(make([]int32, 255), 32768)},
	} {
		isNoGet(t, c.w, c.h, row(c.l...), api.ErrRange)
	}
}

// stair is a tile of 16 by 16 in which each height is so much above the one by which it is told.
func stair(rise int) []int16 {
	z := make([]int16, 256)
	for i := range z {
		z[i] = int16((i%16 + i/16 + 1) * rise)
	}
	return z
}

// 8.3: the ends, which have just room.
func TestGetEnds(t *testing.T) {
	for _, c := range []struct {
		w, h int
		l    []int32
		z    []int16
	}{
		{1, 1, []int32{32767}, []int16{32767}},
		{1, 1, []int32{-32768}, []int16{api.Void}},
		{3, 1, []int32{-32768, 65535, -65535}, []int16{api.Void, 32767, api.Void}},
		{1, 3, []int32{32767, -65535, 65535}, []int16{32767, -32768, 32767}},
		// A row goes on from the first one of the row ahead, not from the last one.
		{2, 2, []int32{32767, -65535, 0, 0}, []int16{32767, -32768, 32767, 32767}},
		{2, 2, []int32{-32768, 65535, 0, 65535}, []int16{-32768, 32767, -32768, 32767}},
		{16, 16, slices.Repeat([]int32{1057}, 256), stair(1057)},
		{16, 16, slices.Repeat([]int32{-1057}, 256), stair(-1057)},
	} {
		if z, code := tile.Get(c.w, c.h, row(c.l...)); code != api.OK || !slices.Equal(z, c.z) {
			t.Error(c.l, z, c.z, code)
		}
	}
}

// 8.3 and R6: bytes that are no row are told to be so, even if they would tell a height that is too great.
func TestGetFormFirst(t *testing.T) {
	b := row(32767, 1, 0)
	isNoGet(t, 3, 1, b, api.ErrRange)
	isNoGet(t, 3, 1, b[:len(b)-1], api.ErrForm)
	isNoGet(t, 3, 1, append(b, 0), api.ErrForm)
	isNoGet(t, 2, 1, rowBy(15, []int32{32767, 1}), api.ErrForm)
	isNoGet(t, 0, 1, b, api.ErrSize)
}

// 8.3 and R3: bytes are not changed, none behind them are read, and what is got is new memory.
func TestGetIsNew(t *testing.T) {
	room := append(row(3, -2, 1, -3), 0, 0)
	kept := slices.Clone(room)
	b := room[:len(room)-2]
	one, _ := tile.Get(2, 2, b)
	two, code := tile.Get(2, 2, b)
	one[3] = 9
	one = append(one, 9)
	if want := []int16{3, 1, 4, 1}; !slices.Equal(two, want) || code != api.OK || !bytes.Equal(room, kept) {
		t.Error(two, code, room)
	}
	for i := range room {
		room[i] = 0xff
	}
	if !slices.Equal(two, []int16{3, 1, 4, 1}) {
		t.Error(two)
	}
}

// 8.4: a tile that is laid stands there, and the field around it is as it was.
func TestLay(t *testing.T) {
	for _, w := range fewSides {
		for _, h := range fewSides {
			for _, p := range places(w, h) {
				f, was := ground(w, h), ground(w, h)
				z := part(f, p)
				if len(z) == 0 {
					continue
				}
				for i := range z {
					z[i] = int16(-30000 + i)
				}
				kept := slices.Clone(z)
				if !tile.Lay(f, p, z) || !slices.Equal(z, kept) {
					t.Fatal(w, h, p, z)
				}
				for i := range f.Z {
					if isIn(w, i, p) {
						was.Z[i], kept = kept[0], kept[1:]
					}
				}
				if !slices.Equal(f.Z, was.Z) {
					t.Fatal(w, h, p, "the field is not as it should be")
				}
			}
		}
	}
}

// 8.4: a tile that is laid where it was cut changes nothing.
func TestLayWhereItWasCut(t *testing.T) {
	f := ground(40, 37)
	for y := range 3 {
		for x := range 3 {
			p := tile.Place{X: x, Y: y}
			if !tile.Lay(f, p, tile.Cut(f, p)) || !slices.Equal(f.Z, ground(40, 37).Z) {
				t.Fatal(p)
			}
		}
	}
}

// isNotLaid fails if a tile is laid, or anything of a field, or behind it, is changed.
func isNotLaid(t *testing.T, f api.Heights, p tile.Place, z []int16) {
	t.Helper()
	room := f.Z[:cap(f.Z)]
	kept := slices.Clone(room)
	if tile.Lay(f, p, z) || !slices.Equal(room, kept) {
		t.Error(f.W, f.H, len(f.Z), p, len(z))
	}
}

// 8.4: where there is no tile none is laid, however far away that is.
func TestLayNoPlace(t *testing.T) {
	for _, w := range fewSides {
		for _, h := range fewSides {
			f := ground(w, h)
			for _, p := range places(w, h) {
				if len(part(f, p)) > 0 {
					continue
				}
				for _, n := range []int{0, 1, 4, 16, 256, w * h} {
					isNotLaid(t, f, p, make([]int16, n))
				}
			}
		}
	}
}

// 8.4: a tile of another size is not laid.
func TestLayOther(t *testing.T) {
	for _, w := range fewSides {
		for _, h := range fewSides {
			f := ground(w, h)
			for _, p := range places(w, h) {
				size := len(part(f, p))
				if size == 0 {
					continue
				}
				for _, n := range []int{0, 1, size - 1, size + 1, 256, 257} {
					if n != size {
						isNotLaid(t, f, p, make([]int16, n))
					}
				}
			}
		}
	}
}

// 8.4: on a field that is none nothing is laid.
func TestLayOnNoField(t *testing.T) {
	for _, f := range []api.Heights{
		{}, {W: 2, H: 2}, {W: 1, H: 1, Z: make([]int16, 1)}, {W: 1, H: 4, Z: make([]int16, 4)}, {W: 4, H: 1, Z: make([]int16, 4)},
		{W: 2, H: 2, Z: make([]int16, 3, 4)}, {W: 2, H: 2, Z: make([]int16, 5)}, {W: -2, H: -2, Z: make([]int16, 4)},
		{W: 257, H: 2, Z: make([]int16, 514)}, {W: 2, H: 257, Z: make([]int16, 514)}, {W: 1 << 32, H: 1 << 32},
		{W: math.MinInt, H: 2}, {W: math.MaxInt, H: math.MaxInt},
	} {
		for _, n := range []int{0, 1, 3, 4, 32, 256} {
			isNotLaid(t, f, tile.Place{}, slices.Repeat([]int16{5}, n))
		}
	}
}

// 8.4 and R3: what is laid is not kept, and nothing behind the field is changed.
func TestLayIsCopied(t *testing.T) {
	room := slices.Repeat([]int16{7}, 20)
	f := api.Heights{W: 3, H: 5, Z: room[:15]}
	z := make([]int16, 15)
	if !tile.Lay(f, tile.Place{}, z) {
		t.Fatal("not laid")
	}
	z[4] = 9
	if want := append(make([]int16, 15), 7, 7, 7, 7, 7); !slices.Equal(room, want) {
		t.Error(room)
	}
}

// 8.4: heights that are some of the field's own are laid as they were ahead of that.
func TestLayOwnHeights(t *testing.T) {
	for at := range 40*20 - 16*16 {
		f := ground(40, 20)
		want := slices.Clone(f.Z[at : at+256])
		if !tile.Lay(f, tile.Place{X: 1}, f.Z[at:at+256]) {
			t.Fatal(at)
		}
		if got := part(f, tile.Place{X: 1}); !slices.Equal(got, want) {
			t.Fatal(at, got, want)
		}
	}
}

// 8.5: tiles of each size are the same, there and back.
func TestThereAndBack(t *testing.T) {
	c := rand.New(rand.NewPCG(8, 5))
	for w := 1; w <= 16; w++ {
		for h := 1; h <= 16; h++ {
			for range 5 {
				want := anyHeights(c, w*h)
				b, _ := tile.Put(w, h, want)
				kept := slices.Clone(b)
				z, code := tile.Get(w, h, b)
				if code != api.OK || !slices.Equal(z, want) || !bytes.Equal(b, kept) {
					t.Fatal(w, h, want, z, code)
				}
			}
		}
	}
}

// 8.5: the ends, one beside the other, in a tile of 16 by 16, are the same, there and back.
func TestThereAndBackEnds(t *testing.T) {
	ends := make([]int16, 256)
	for i := range ends {
		ends[i] = api.Void
		if (i+i/16)%2 == 0 {
			ends[i] = 32767
		}
	}
	b, code := tile.Put(16, 16, ends)
	if code != api.OK || !bytes.Equal(b, row(rises(16, 16, ends)...)) {
		t.Fatal(b, code)
	}
	if z, code := tile.Get(16, 16, b); code != api.OK || !slices.Equal(z, ends) {
		t.Error(z, code)
	}
}

// 8.5: fields are the same when all their tiles went there and back.
func TestThereAndBackFields(t *testing.T) {
	c := rand.New(rand.NewPCG(8, 6))
	for range 60 {
		w, h := sides[c.IntN(len(sides))], 2+c.IntN(255)
		f := api.Heights{W: w, H: h, Z: anyHeights(c, w*h)}
		other := api.Heights{W: w, H: h, Z: slices.Repeat([]int16{77}, w*h)}
		for y := range tile.Count(h) {
			for x := range tile.Count(w) {
				p := tile.Place{X: x, Y: y}
				_, _, cols, rows := tile.Box(w, h, p)
				b, code := tile.Put(cols, rows, tile.Cut(f, p))
				if code != api.OK {
					t.Fatal(w, h, p, code)
				}
				z, code := tile.Get(cols, rows, b)
				if code != api.OK || !tile.Lay(other, p, z) {
					t.Fatal(w, h, p, code)
				}
			}
		}
		if !slices.Equal(other.Z, f.Z) {
			t.Fatal(w, h, "is another field")
		}
	}
}

// 8.5: of all bytes, as many as two, those that are a tile are just what is put of it.
func TestOneWay(t *testing.T) {
	found := 0
	for x := range 1<<8 + 1<<16 {
		b := []byte{byte(x)}
		if x >= 1<<8 {
			b = []byte{byte((x - 1<<8) >> 8), byte(x)}
		}
		for w := 1; w <= 3; w++ {
			for h := 1; h <= 3; h++ {
				z, code := tile.Get(w, h, b)
				if code != api.OK {
					continue
				}
				found++
				if again, code := tile.Put(w, h, z); code != api.OK || !bytes.Equal(again, b) {
					t.Fatal(w, h, b, z, again, code)
				}
			}
		}
	}
	if found < 500 {
		t.Error("few bytes were a tile:", found)
	}
}

// 8.5: bytes of a tile of which one bit is another one are refused, or are another tile, in one way alone.
func TestOneWayBits(t *testing.T) {
	c := rand.New(rand.NewPCG(8, 7))
	for range 100 {
		w, h := 1+c.IntN(6), 1+c.IntN(6)
		want := anyHeights(c, w*h)
		b, _ := tile.Put(w, h, want)
		for i := range 8 * len(b) {
			b[i/8] ^= 1 << (i % 8)
			z, code := tile.Get(w, h, b)
			if code == api.OK {
				again, _ := tile.Put(w, h, z)
				if slices.Equal(z, want) || !bytes.Equal(again, b) {
					t.Fatal(w, h, want, z, b, again)
				}
			} else if len(z) != 0 || code != api.ErrForm && code != api.ErrRange {
				t.Fatal(w, h, z, code)
			}
			b[i/8] ^= 1 << (i % 8)
		}
	}
}

// Example 1: the tile in the place 2, 1 of a field of 40 columns and 20 rows.
func TestExample(t *testing.T) {
	isBox(t, 40, 20, tile.Place{X: 2, Y: 1}, [4]int{32, 16, 8, 4})
	f := ground(40, 20)
	z := tile.Cut(f, tile.Place{X: 2, Y: 1})
	if len(z) != 32 || z[0] != f.Z[16*40+32] || z[8] != f.Z[17*40+32] || z[31] != f.Z[19*40+39] {
		t.Error(z)
	}
}
