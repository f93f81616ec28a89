package terrain_test

import (
	"math"
	"math/big"
	"math/rand/v2"
	"slices"
	"testing"

	"theodolite/api"
	"theodolite/cache"
	"theodolite/chart"
	"theodolite/terrain"
)

// sides is how many columns or rows maps of the tests have: the ends, and what is about a tile's end.
var sides = []int{2, 3, 15, 16, 17, 31, 33, 48, 100, 255, 256}

// rests is how far places of the tests lie behind a height: none, the ends, and what is about the middle.
var rests = []int64{0, 1, 2, 127, 128, 129, 254, 255}

// far is numbers that lie far beyond any map, those that would be on it were they cut off among them.
var far = []int64{
	math.MinInt64, math.MinInt64 + 1, math.MinInt64 + 256, -1 << 40, -1<<32 - 1, -1 << 32, -65536, -257, -256, -255, -2, -1,
	255*256 + 1, 255*256 + 255, 256 * 256, 256*256 + 1, 1 << 24, 1<<31 - 1, 1 << 31, 1 << 32, 1<<32 + 256,
	1 << 40, 1<<40 + 256, 1 << 62, math.MaxInt64 - 255, math.MaxInt64 - 1, math.MaxInt64,
}

// anyMap is a map of which one height in so many is missing (none, if that is 0), and each other one may be any, the ends among them.
func anyMap(c *rand.Rand, w, h, missing int) api.Chart {
	m := api.Chart{F: api.Heights{W: w, H: h}, Cell: 1 + c.IntN(1000), OX: int32(c.Uint32()), OY: int32(c.Uint32())}
	for range w * h {
		z := max(int16(c.Uint32())>>c.IntN(16), -32767)
		switch c.IntN(8) {
		case 0:
			z = 32767
		case 1:
			z = -32767
		}
		if missing > 0 && c.IntN(missing) == 0 {
			z = api.Void
		}
		m.F.Z = append(m.F.Z, z)
	}
	return m
}

// mapOf is a map of these heights, row by row.
func mapOf(w int, z ...int16) api.Chart {
	return api.Chart{F: api.Heights{W: w, H: len(z) / w, Z: z}, Cell: 30, OX: -100, OY: 200}
}

// made is a cache over a map.
func made(t *testing.T, m api.Chart, room int) *cache.Cache {
	t.Helper()
	b, code := chart.Put(m)
	if code != api.OK {
		t.Fatal(code)
	}
	c, code := cache.New(b, room)
	if code != api.OK {
		t.Fatal(code)
	}
	return c
}

// ground is what 11.1 and 11.2 tell of a place, told otherwise: of the four those alone count that have a share in it.
type ground struct {
	z      [4]int64
	fx, fy int64
	sum    int64
	code   api.Code
}

// groundOf is a map's ground at a place.
func groundOf(m api.Chart, s api.Spot) ground {
	w, h := int64(m.F.W), int64(m.F.H)
	if s.X < 0 || s.Y < 0 || s.X > 256*(w-1) || s.Y > 256*(h-1) {
		return ground{code: api.ErrOff}
	}
	x, y := s.X>>8, s.Y>>8
	g := ground{fx: s.X & 255, fy: s.Y & 255}
	shares := [4]int64{(256 - g.fx) * (256 - g.fy), g.fx * (256 - g.fy), (256 - g.fx) * g.fy, g.fx * g.fy}
	for i, share := range shares {
		if share == 0 {
			continue
		}
		z := m.F.Z[(y+int64(i/2))*w+x+int64(i%2)]
		if z == -32768 {
			return ground{code: api.ErrVoid}
		}
		g.z[i] = int64(z)
		g.sum += share * int64(z)
	}
	return g
}

// slope is what 11.3 tells of a ground, times 256 and in metres: where a side has no share there is none to rise to.
func (g ground) slope() (int64, int64) {
	var east, north int64
	if g.fx != 0 {
		east = (256-g.fy)*g.z[1] - (256-g.fy)*g.z[0] + g.fy*g.z[3] - g.fy*g.z[2]
	}
	if g.fy != 0 {
		north = (256-g.fx)*g.z[2] - (256-g.fx)*g.z[0] + g.fx*g.z[3] - g.fx*g.z[1]
	}
	return east, north
}

// near is a times b divided by c, rounded to the nearer number, the greater one of two: what is no more than a half above it, rounded down.
func near(a, b, c int64) int64 {
	n := new(big.Int).Mul(big.NewInt(a), big.NewInt(2*b))
	n.Add(n, big.NewInt(c))
	return n.Div(n, big.NewInt(2*c)).Int64()
}

// isGround fails if the ground at a place, or how steep it is, is told otherwise than it should be.
func isGround(t *testing.T, c *cache.Cache, m api.Chart, s api.Spot) {
	t.Helper()
	g := groundOf(m, s)
	if got, want := terrain.Inside(m, s), g.code != api.ErrOff; got != want {
		t.Fatalf("%v of %d by %d: inside: %t, not %t", s, m.F.W, m.F.H, got, want)
	}
	wantZ := near(16, g.sum, 65536)
	if z, code := terrain.Height(c, s); z != wantZ || code != g.code {
		t.Fatalf("%v of %d by %d, %v: %d, %d, not %d, %d", s, m.F.W, m.F.H, g, z, code, wantZ, g.code)
	}
	east, north := g.slope()
	wantX, wantY := near(16, east, 256), near(16, north, 256)
	if x, y, code := terrain.Slope(c, s); x != wantX || y != wantY || code != g.code {
		t.Fatalf("%v of %d by %d, %v: %d, %d, %d, not %d, %d, %d", s, m.F.W, m.F.H, g, x, y, code, wantX, wantY, g.code)
	}
}

// 11.2: the constant.
func TestUnit(t *testing.T) {
	if terrain.Unit != 16 {
		t.Error(terrain.Unit)
	}
}

// 11.1: places on a map of three columns and two rows, and about it.
func TestInsideKnown(t *testing.T) {
	m := mapOf(3, 0, 16, 9, 32, 48, api.Void)
	for _, s := range []struct {
		x, y int64
		want bool
	}{
		{0, 0, true}, {1, 1, true}, {255, 255, true}, {256, 0, true}, {0, 256, true}, {511, 256, true}, {512, 256, true}, {512, 0, true},
		{513, 0, false}, {513, 256, false}, {0, 257, false}, {512, 257, false}, {767, 0, false}, {768, 0, false}, {256, 512, false},
		{-1, 0, false}, {0, -1, false}, {-1, -1, false}, {-256, 256, false}, {-512, -256, false}, {513, 257, false},
	} {
		if got := terrain.Inside(m, api.Spot{X: s.x, Y: s.y}); got != s.want {
			t.Error(s, got)
		}
	}
}

// 11.1: the first and the last place of each side, and those one beyond, be the heights there or not.
func TestInsideEnds(t *testing.T) {
	for n := 1; n <= 256; n++ {
		last := 256 * int64(n-1)
		for _, m := range []api.Chart{{F: api.Heights{W: n, H: 256}}, {F: api.Heights{W: n, H: 256, Z: make([]int16, 256*n)}, Cell: 1000, OX: -7, OY: 9}} {
			turned := m
			turned.F.W, turned.F.H = m.F.H, m.F.W
			for _, at := range append([]int64{0, 1, last - 256, last - 255, last - 1, last, last + 1, last + 255, last + 256, last + 257}, far...) {
				want := at >= 0 && at <= last
				for _, other := range []int64{0, 1, 255 * 256} {
					if terrain.Inside(m, api.Spot{X: at, Y: other}) != want || terrain.Inside(turned, api.Spot{X: other, Y: at}) != want {
						t.Fatal(n, at, other, want)
					}
				}
				if terrain.Inside(m, api.Spot{X: at, Y: 255*256 + 1}) || terrain.Inside(m, api.Spot{X: at, Y: -1}) {
					t.Fatal(n, at, "inside, where the other one is not")
				}
			}
		}
	}
}

// 11.1: where there are no columns, or no rows, no place is inside.
func TestInsideNone(t *testing.T) {
	for _, n := range []int{0, -1, -256, math.MinInt} {
		for _, at := range append([]int64{0, 1, 256}, far...) {
			if terrain.Inside(api.Chart{F: api.Heights{W: n, H: 2}}, api.Spot{X: at}) || terrain.Inside(api.Chart{F: api.Heights{W: 2, H: n}}, api.Spot{Y: at}) {
				t.Error(n, at)
			}
		}
	}
}

// 11.2: grounds that are told one by one, among them the chapter's example, and such as lie just at a half of a unit.
func TestHeightKnown(t *testing.T) {
	for _, s := range []struct {
		z    []int16
		x, y int64
		want int64
	}{
		{[]int16{0, 16, 32, 48}, 128, 64, 256},
		{[]int16{0, 16, 32, 48}, 0, 0, 0},
		{[]int16{0, 16, 32, 48}, 256, 0, 256},
		{[]int16{0, 16, 32, 48}, 0, 256, 512},
		{[]int16{0, 16, 32, 48}, 256, 256, 768},
		{[]int16{0, 16, 32, 48}, 1, 0, 1},
		{[]int16{0, 16, 32, 48}, 0, 1, 2},
		{[]int16{0, 16, 32, 48}, 255, 255, 765},
		{[]int16{0, 1, 0, 1}, 7, 0, 0},
		{[]int16{0, 1, 0, 1}, 8, 0, 1},
		{[]int16{0, 1, 0, 1}, 9, 100, 1},
		{[]int16{0, 1, 0, 1}, 23, 0, 1},
		{[]int16{0, 1, 0, 1}, 24, 256, 2},
		{[]int16{0, -1, 0, -1}, 7, 0, 0},
		{[]int16{0, -1, 0, -1}, 8, 0, 0},
		{[]int16{0, -1, 0, -1}, 9, 0, -1},
		{[]int16{0, -1, 0, -1}, 24, 200, -1},
		{[]int16{0, -1, 0, -1}, 25, 0, -2},
		{[]int16{0, 0, 1, 1}, 0, 8, 1},
		{[]int16{0, 0, -1, -1}, 256, 8, 0},
		{[]int16{0, 0, -1, -1}, 77, 9, -1},
		{[]int16{0, 0, 0, 1}, 32, 63, 0},
		{[]int16{0, 0, 0, 1}, 32, 64, 1},
		{[]int16{0, 0, 0, -1}, 32, 64, 0},
		{[]int16{0, 0, 0, -1}, 32, 65, -1},
		{[]int16{-32767, 32767, 32767, -32767}, 128, 128, 0},
		{[]int16{-32767, 32767, 32767, -32767}, 1, 0, -520176},
		{[]int16{-32767, 32767, 32767, -32767}, 255, 0, 520176},
		{[]int16{-32767, -32767, -32767, -32767}, 3, 255, -524272},
		{[]int16{32767, 32767, 32767, 32767}, 255, 1, 524272},
	} {
		c := made(t, mapOf(2, s.z...), 4)
		if z, code := terrain.Height(c, api.Spot{X: s.x, Y: s.y}); z != s.want || code != api.OK {
			t.Error(s, z, code)
		}
	}
}

// 11.3: slopes that are told one by one, among them such as lie just at a half of a unit.
func TestSlopeKnown(t *testing.T) {
	for _, s := range []struct {
		z           []int16
		x, y        int64
		east, north int64
	}{
		{[]int16{0, 16, 32, 48}, 128, 64, 256, 512},
		{[]int16{0, 16, 32, 48}, 0, 64, 0, 512},
		{[]int16{0, 16, 32, 48}, 128, 0, 256, 0},
		{[]int16{0, 16, 32, 48}, 0, 0, 0, 0},
		{[]int16{0, 16, 32, 48}, 256, 256, 0, 0},
		{[]int16{0, 16, 32, 48}, 256, 1, 0, 512},
		{[]int16{0, 16, 32, 48}, 255, 256, 256, 0},
		{[]int16{48, 32, 16, 0}, 1, 255, -256, -512},
		{[]int16{0, 0, 0, 1}, 7, 7, 0, 0},
		{[]int16{0, 0, 0, 1}, 8, 7, 0, 1},
		{[]int16{0, 0, 0, 1}, 7, 8, 1, 0},
		{[]int16{0, 0, 0, 1}, 8, 8, 1, 1},
		{[]int16{0, 0, 0, 1}, 23, 24, 2, 1},
		{[]int16{0, 0, 0, -1}, 8, 8, 0, 0},
		{[]int16{0, 0, 0, -1}, 9, 8, 0, -1},
		{[]int16{0, 0, 0, -1}, 8, 9, -1, 0},
		{[]int16{0, 0, 0, -1}, 24, 25, -2, -1},
		{[]int16{-1, 0, 0, 0}, 248, 248, 1, 1},
		{[]int16{1, 0, 0, 0}, 248, 248, 0, 0},
		{[]int16{0, 0, 5, 0}, 64, 128, -40, 60},
		{[]int16{0, 5, 0, 0}, 64, 128, 40, -20},
		{[]int16{-32767, 32767, 32767, -32767}, 1, 1, 1040352, 1040352},
		{[]int16{-32767, 32767, 32767, -32767}, 255, 255, -1040352, -1040352},
		{[]int16{-32767, 32767, -32767, 32767}, 77, 200, 1048544, 0},
		{[]int16{32767, 32767, -32767, -32767}, 77, 200, 0, -1048544},
	} {
		c := made(t, mapOf(2, s.z...), 4)
		if x, y, code := terrain.Slope(c, api.Spot{X: s.x, Y: s.y}); x != s.east || y != s.north || code != api.OK {
			t.Error(s, x, y, code)
		}
	}
}

// 11.1 to 11.3: on a height itself the ground is that height, and it is not steep, whatever lies beside it.
func TestOnHeights(t *testing.T) {
	c := rand.New(rand.NewPCG(11, 1))
	for _, m := range []api.Chart{anyMap(c, 2, 2, 2), anyMap(c, 33, 17, 2), anyMap(c, 16, 31, 8), anyMap(c, 256, 2, 3)} {
		x := made(t, m, 4)
		for i, z := range m.F.Z {
			s := api.Spot{X: 256 * int64(i%m.F.W), Y: 256 * int64(i/m.F.W)}
			want, wantCode := 16*int64(z), api.OK
			if z == api.Void {
				want, wantCode = 0, api.ErrVoid
			}
			if got, code := terrain.Height(x, s); got != want || code != wantCode {
				t.Fatal(s, got, code, want, wantCode)
			}
			if east, north, code := terrain.Slope(x, s); east != 0 || north != 0 || code != wantCode {
				t.Fatal(s, east, north, code, wantCode)
			}
		}
	}
}

// 11.1: one of four heights is missing: which places have a code for it.
func TestOneMissing(t *testing.T) {
	for missing := range 4 {
		z := []int16{3, 50, -20, 9}
		z[missing] = api.Void
		m := mapOf(2, z...)
		c := made(t, m, 4)
		for _, x := range []int64{0, 1, 128, 255, 256} {
			for _, y := range []int64{0, 1, 128, 255, 256} {
				// On the side that lies opposite the missing one it has no share.
				isAway := missing%2 == 1 && x == 0 || missing%2 == 0 && x == 256 || missing/2 == 1 && y == 0 || missing/2 == 0 && y == 256
				want := api.ErrVoid
				if isAway {
					want = api.OK
				}
				if _, code := terrain.Height(c, api.Spot{X: x, Y: y}); code != want {
					t.Error(missing, x, y, code)
				}
				if _, _, code := terrain.Slope(c, api.Spot{X: x, Y: y}); code != want {
					t.Error(missing, x, y, code)
				}
				isGround(t, c, m, api.Spot{X: x, Y: y})
			}
		}
	}
}

// isCode fails if a place has another code, or if anything is told beside it.
func isCode(t *testing.T, c *cache.Cache, s api.Spot, want api.Code) {
	t.Helper()
	if z, code := terrain.Height(c, s); z != 0 || code != want {
		t.Error(s, z, code, want)
	}
	if x, y, code := terrain.Slope(c, s); x != 0 || y != 0 || code != want {
		t.Error(s, x, y, code, want)
	}
}

// 11.1: places that are off the map have that code, even beside heights that are missing; those on it have that of the heights.
func TestOff(t *testing.T) {
	c := rand.New(rand.NewPCG(11, 2))
	for _, w := range sides {
		for _, h := range []int{2, 16, 17, 256} {
			full, empty := made(t, anyMap(c, w, h, 0), 4), made(t, anyMap(c, w, h, 1), 4)
			lastX, lastY := 256*int64(w-1), 256*int64(h-1)
			for _, s := range []api.Spot{{X: -1}, {Y: -1}, {X: -1, Y: -1}, {X: lastX + 1}, {Y: lastY + 1}, {X: lastX + 1, Y: lastY}, {X: lastX, Y: lastY + 1}, {X: lastX + 256, Y: lastY}, {X: lastX, Y: lastY + 256}} {
				isCode(t, full, s, api.ErrOff)
				isCode(t, empty, s, api.ErrOff)
			}
			for _, at := range far {
				for _, s := range []api.Spot{{X: at, Y: at}, {X: at, Y: -1}, {X: lastX + 1, Y: at}} {
					isCode(t, full, s, api.ErrOff)
					isCode(t, empty, s, api.ErrOff)
				}
			}
			for _, s := range []api.Spot{{}, {X: 1}, {Y: 1}, {X: lastX, Y: lastY}, {X: lastX}, {X: lastX - 1, Y: lastY - 1}} {
				isCode(t, empty, s, api.ErrVoid)
			}
		}
	}
}

// 11.1 to 11.3: on maps of all kinds, places anywhere, about the ends, and behind heights by rests of all kinds.
func TestGround(t *testing.T) {
	c := rand.New(rand.NewPCG(11, 3))
	for _, w := range sides {
		for _, h := range sides {
			m := anyMap(c, w, h, []int{0, 4, 12, 100}[c.IntN(4)])
			x := made(t, m, 4)
			for range 150 {
				s := api.Spot{X: c.Int64N(256*int64(w) + 2), Y: c.Int64N(256*int64(h) + 2)}
				isGround(t, x, m, s)
				s = api.Spot{X: s.X&^255 + rests[c.IntN(8)], Y: s.Y&^255 + rests[c.IntN(8)]}
				isGround(t, x, m, s)
				s.X = 256*int64(w-1) + c.Int64N(5) - 2
				isGround(t, x, m, s)
				isGround(t, x, m, api.Spot{X: s.Y % (256 * int64(w)), Y: 256*int64(h-1) + c.Int64N(5) - 2})
			}
		}
	}
}

// 11.1 to 11.3: places on both sides of where tiles meet, behind each height by rests of all kinds.
func TestMeeting(t *testing.T) {
	c := rand.New(rand.NewPCG(11, 4))
	for _, missing := range []int{0, 9} {
		m := anyMap(c, 48, 33, missing)
		x := made(t, m, 4)
		for _, col := range []int64{14, 15, 16, 30, 31, 32} {
			for _, row := range []int64{14, 15, 16, 30, 31, 32} {
				for i := range 64 {
					isGround(t, x, m, api.Spot{X: 256*col + rests[i/8], Y: 256*row + rests[i%8]})
				}
			}
		}
	}
}

// 11.2, 11.3: the ends of what a height may be, beside each other, at all rests.
func TestSteep(t *testing.T) {
	for _, z := range [][]int16{{-32767, 32767, 32767, -32767}, {32767, -32767, 32767, -32767}, {-32767, -32767, 32767, 32767}, {32767, -32767, -32767, -32767}, {-32767, 0, 1, 32767}} {
		m := mapOf(2, z...)
		c := made(t, m, 4)
		for i := range int64(257) {
			for k := range int64(257) {
				isGround(t, c, m, api.Spot{X: i, Y: k})
			}
		}
	}
}

// 11.2 to 11.4: what is told does not hang on what is at hand.
func TestAtHand(t *testing.T) {
	c := rand.New(rand.NewPCG(11, 5))
	m := anyMap(c, 100, 100, 20)
	one, other := made(t, m, 4), made(t, m, 32)
	for range 3000 {
		other.Height(c.IntN(100), c.IntN(100))
		s := api.Spot{X: c.Int64N(99 * 256), Y: c.Int64N(99 * 256)}
		a, codeA := terrain.Height(one, s)
		b, codeB := terrain.Height(other, s)
		x, y, _ := terrain.Slope(one, s)
		again, north, _ := terrain.Slope(other, s)
		if a != b || codeA != codeB || x != again || y != north {
			t.Fatal(s, a, b, codeA, codeB, x, again, y, north)
		}
		col, row, side := c.IntN(110)-5, c.IntN(110)-5, c.IntN(3)
		r, n := terrain.Rough(one, col, row, side)
		q, k := terrain.Rough(other, col, row, side)
		if r != q || n != k {
			t.Fatal(col, row, side, r, n, q, k)
		}
	}
}

// rough is what 11.4 tells of a square, in numbers however great: the heights are looked for all over the map.
func rough(m api.Chart, x, y, side int) (int64, int) {
	n, sum, squares := int64(0), new(big.Int), new(big.Int)
	for i, z := range m.F.Z {
		if z == -32768 || i%m.F.W < x-side || i%m.F.W > x+side || i/m.F.W < y-side || i/m.F.W > y+side {
			continue
		}
		one := big.NewInt(int64(z))
		n++
		sum.Add(sum, one)
		squares.Add(squares, one.Mul(one, one))
	}
	if n == 0 {
		return 0, 0
	}
	middle := squares.Mul(squares, big.NewInt(n))
	middle.Sub(middle, sum.Mul(sum, sum))
	middle.Mul(middle, big.NewInt(256)).Quo(middle, big.NewInt(n*n))
	return middle.Sqrt(middle).Int64(), int(n)
}

// isRough fails if how rough a square is is told otherwise than it should be; want is how far it goes, from 0 to 8.
func isRough(t *testing.T, c *cache.Cache, m api.Chart, x, y, side, want int) {
	t.Helper()
	wantR, wantN := rough(m, x, y, want)
	if r, n := terrain.Rough(c, x, y, side); r != wantR || n != wantN {
		t.Fatalf("%d, %d, %d of %d by %d: %d, %d, not %d, %d", x, y, side, m.F.W, m.F.H, r, n, wantR, wantN)
	}
}

// 11.4: squares that are told one by one.
func TestRoughKnown(t *testing.T) {
	for _, s := range []struct {
		m          api.Chart
		x, y, side int
		r          int64
		n          int
	}{
		{mapOf(3, 0, 16, 9, 32, 48, api.Void), 0, 0, 1, 286, 4},
		{mapOf(3, 0, 16, 9, 32, 48, api.Void), 1, 0, 1, 273, 5},
		{mapOf(3, 0, 16, 9, 32, 48, api.Void), 1, 1, 0, 0, 1},
		{mapOf(3, 0, 16, 9, 32, 48, api.Void), 2, 1, 0, 0, 0},
		{mapOf(3, 0, 16, 9, 32, 48, api.Void), 3, 0, 1, 0, 1},
		{mapOf(3, 0, 16, 9, 32, 48, api.Void), 3, 2, 1, 0, 0},
		{mapOf(3, 0, 16, 9, 32, 48, api.Void), 3, 2, 2, 271, 3},
		{mapOf(3, 0, 16, 9, 32, 48, api.Void), -1, -1, 1, 0, 1},
		{mapOf(3, 0, 16, 9, 32, 48, api.Void), -1, 0, 1, 256, 2},
		{mapOf(3, 0, 16, 9, 32, 48, api.Void), -1, -1, 0, 0, 0},
		{mapOf(3, 0, 16, 9, 32, 48, api.Void), 1, 1, 8, 273, 5},
		{mapOf(2, 0, 1, api.Void, api.Void), 0, 0, 1, 8, 2},
		{mapOf(2, 0, 1, 0, api.Void), 0, 0, 1, 7, 3},
		{mapOf(2, 0, 1, 1, 1), 0, 0, 1, 6, 4},
		{mapOf(2, 0, -1, -1, -1), 1, 1, 1, 6, 4},
		{mapOf(2, 5, 5, 5, 5), 0, 0, 1, 0, 4},
		{mapOf(2, -32767, 32767, 32767, -32767), 0, 0, 1, 524272, 4},
		{mapOf(2, 32767, 32767, 32767, 32767), 0, 1, 8, 0, 4},
		{mapOf(2, -32767, -32767, -32767, -32767), 1, 0, 8, 0, 4},
		{mapOf(2, api.Void, api.Void, api.Void, api.Void), 0, 0, 8, 0, 0},
	} {
		if r, n := terrain.Rough(made(t, s.m, 4), s.x, s.y, s.side); r != s.r || n != s.n {
			t.Error(s, r, n)
		}
	}
}

// 11.4: squares on maps of all kinds, on them, about their ends, and partly off them; and far below 0 and above 8.
func TestRough(t *testing.T) {
	c := rand.New(rand.NewPCG(11, 6))
	for _, m := range []api.Chart{anyMap(c, 2, 2, 2), anyMap(c, 17, 16, 0), anyMap(c, 33, 40, 3), anyMap(c, 20, 3, 50), anyMap(c, 12, 12, 1)} {
		x := made(t, m, 4)
		for col := -9; col <= m.F.W+9; col++ {
			for row := -9; row <= m.F.H+9; row++ {
				isRough(t, x, m, col, row, 0, 0)
				isRough(t, x, m, col, row, 1, 1)
				isRough(t, x, m, col, row, 8, 8)
				if (col+row)%8 == 0 {
					side := c.IntN(9)
					isRough(t, x, m, col, row, side, side)
					isRough(t, x, m, col, row, []int{-1, -2, -8, -9, math.MinInt, -1 << 32}[c.IntN(6)], 0)
					isRough(t, x, m, col, row, []int{9, 10, 16, 1000, 1 << 32, math.MaxInt}[c.IntN(6)], 8)
				}
			}
		}
	}
}

// 11.4: the ends of what a height may be, in the greatest square: nothing wraps.
func TestRoughEnds(t *testing.T) {
	m := api.Chart{F: api.Heights{W: 20, H: 20}, Cell: 1}
	for i := range 400 {
		m.F.Z = append(m.F.Z, []int16{-32767, 32767}[(i+i/20)%2])
	}
	c := made(t, m, 4)
	isRough(t, c, m, 8, 8, 8, 8)
	isRough(t, c, m, 9, 8, 9, 8)
	isRough(t, c, m, 11, 11, math.MaxInt, 8)
	if r, n := terrain.Rough(c, 8, 8, 8); r != 524268 || n != 289 {
		t.Error(r, n)
	}
	for i := range m.F.Z {
		m.F.Z[i] = -32767
	}
	if r, n := terrain.Rough(made(t, m, 4), 8, 8, 8); r != 0 || n != 289 {
		t.Error(r, n)
	}
}

// 11.4: columns and rows that lie far away: there are no heights, however far a square goes, and the call ends.
func TestRoughAway(t *testing.T) {
	c := made(t, mapOf(3, 0, 16, 9, 32, 48, api.Void), 4)
	great := made(t, anyMap(rand.New(rand.NewPCG(11, 7)), 256, 256, 0), 4)
	for _, at := range []int{
		math.MinInt, math.MinInt + 8, -1<<32 + 1, -1 << 32, -1<<16 + 1, -1001, -1000, -999, -264, -9,
		264, 265, 999, 1000, 1001, 1 << 16, 1<<16 + 1, 1 << 32, 1<<32 + 1, math.MaxInt - 8, math.MaxInt - 1, math.MaxInt,
	} {
		for _, side := range []int{math.MinInt, -1, 0, 1, 8, 9, 1000, math.MaxInt} {
			for _, p := range [][2]int{{at, 1}, {1, at}, {at, at}, {at, -1000}, {1000, at}, {at, -1001}} {
				// Squares go 8 to each side at most, so that the least of these, and the greatest ones, just do not come to a height of either map.
				for _, x := range []*cache.Cache{c, great} {
					if r, n := terrain.Rough(x, p[0], p[1], side); r != 0 || n != 0 {
						t.Error(p, side, r, n)
					}
				}
			}
		}
	}
	if _, n := terrain.Rough(great, 263, 263, 8); n != 1 {
		t.Error(n)
	}
	if _, n := terrain.Rough(great, -8, -8, 8); n != 1 {
		t.Error(n)
	}
}

// at is a map that begins somewhere, of cells of so many metres.
func at(cell int, ox, oy int32) api.Chart {
	return api.Chart{F: api.Heights{W: 2, H: 2, Z: []int16{1, 2, 3, 4}}, Cell: cell, OX: ox, OY: oy}
}

// 11.5: places of metres that are told one by one: on a cell, one below it, and below where the map begins.
func TestSpotKnown(t *testing.T) {
	for _, s := range []struct {
		m           api.Chart
		east, north int64
		want        api.Spot
	}{
		{at(30, -100, 200), -100, 200, api.Spot{}},
		{at(30, -100, 200), -70, 260, api.Spot{X: 256, Y: 512}},
		{at(30, -100, 200), -71, 259, api.Spot{X: 247, Y: 503}},
		{at(30, -100, 200), -99, 199, api.Spot{X: 8, Y: -9}},
		{at(30, -100, 200), -130, 170, api.Spot{X: -256, Y: -256}},
		{at(30, -100, 200), -131, 171, api.Spot{X: -265, Y: -248}},
		{at(1, 0, 0), 5, -5, api.Spot{X: 1280, Y: -1280}},
		{at(1, 7, -7), 6, -8, api.Spot{X: -256, Y: -256}},
		{at(1, 7, -7), 7, -6, api.Spot{Y: 256}},
		{at(1000, 0, 0), 1, -1, api.Spot{X: 0, Y: -1}},
		{at(1000, 0, 0), 3, 4, api.Spot{X: 0, Y: 1}},
		{at(1000, 0, 0), -3, -4, api.Spot{X: -1, Y: -2}},
		{at(1000, 0, 0), 999, 1000, api.Spot{X: 255, Y: 256}},
		{at(1000, 500, -500), 1499, 500, api.Spot{X: 255, Y: 256}},
		{at(1000, 0, 0), -1000, -1001, api.Spot{X: -256, Y: -257}},
		{at(1, math.MinInt32, math.MaxInt32), 1 << 40, -1 << 40, api.Spot{X: 1<<48 + 1<<39, Y: -1<<48 - 1<<39 + 256}},
		{at(1000, math.MaxInt32, math.MinInt32), -1 << 40, 1 << 40, api.Spot{X: -282024732525, Y: 282024732524}},
	} {
		if got, ok := terrain.Spot(s.m, s.east, s.north); got != s.want || !ok {
			t.Error(s, got, ok)
		}
	}
}

// 11.5: where places lie that are told one by one, among them such as lie just at a half of a metre, above 0 and below it.
func TestMetresKnown(t *testing.T) {
	for _, s := range []struct {
		m           api.Chart
		x, y        int64
		east, north int64
	}{
		{at(30, -100, 200), 0, 0, -100, 200},
		{at(30, -100, 200), 256, 512, -70, 260},
		{at(30, -100, 200), -256, 128, -130, 215},
		{at(30, -100, 200), 4, 5, -100, 201},
		{at(30, -100, 200), -4, -5, -100, 199},
		{at(1, 0, 0), 127, 128, 0, 1},
		{at(1, 0, 0), -128, -129, 0, -1},
		{at(1, 0, 0), 384, -384, 2, -1},
		{at(1, 7, -7), 128, 128, 8, -6},
		{at(1, -7, 7), -128, -128, -7, 7},
		{at(3, 0, 0), 128, -128, 2, -1},
		{at(1000, 0, 0), 1, -1, 4, -4},
		{at(1000, 0, 0), 16, -16, 63, -62},
		{at(1000, -63, 62), 16, -16, 0, 0},
		{at(1000, 9, -9), 256, -256, 1009, -1009},
		{at(1000, math.MaxInt32, math.MinInt32), 1 << 40, -1 << 40, 1000<<32 + math.MaxInt32, -1000<<32 + math.MinInt32},
		{at(1, math.MinInt32, math.MaxInt32), -1 << 40, 1 << 40, -1<<32 + math.MinInt32, 1<<32 + math.MaxInt32},
	} {
		if east, north, ok := terrain.Metres(s.m, api.Spot{X: s.x, Y: s.y}); east != s.east || north != s.north || !ok {
			t.Error(s, east, north, ok)
		}
	}
}

// few is numbers from -2^40 to 2^40, the ends among them; many is others.
var (
	few  = []int64{-1 << 40, -1<<40 + 1, -1 << 32, -1<<31 - 1, -65536, -1000, -257, -256, -255, -129, -128, -1, 0, 1, 127, 128, 255, 256, 999, 1000, 1 << 31, 1<<40 - 1, 1 << 40}
	many = []int64{math.MinInt64, math.MinInt64 + 1, -1 << 62, -1<<48 - 5, -1<<41 + 1, -1<<40 - 256, -1<<40 - 1, 1<<40 + 1, 1<<40 + 256, 1<<41 - 1, 1<<48 + 5, 1 << 62, math.MaxInt64 - 1, math.MaxInt64}
)

// 11.5: metres, and parts of a cell, at the ends and just beyond them, of each of both.
func TestFewAndMany(t *testing.T) {
	for _, m := range []api.Chart{at(1, math.MinInt32, math.MaxInt32), at(1000, math.MaxInt32, math.MinInt32), at(30, -100, 200)} {
		for _, x := range few {
			for _, y := range few {
				isMeasured(t, m, x, y)
			}
			for _, y := range many {
				isTooFar(t, m, x, y)
				isTooFar(t, m, y, x)
			}
		}
		for _, x := range many {
			isTooFar(t, m, x, x)
			isTooFar(t, m, x, -x)
		}
	}
}

// isTooFar fails if metres, or a place, are not refused, or if anything is told beside that.
func isTooFar(t *testing.T, m api.Chart, x, y int64) {
	t.Helper()
	if s, ok := terrain.Spot(m, x, y); ok || s != (api.Spot{}) {
		t.Fatal(m, x, y, s, ok)
	}
	if east, north, ok := terrain.Metres(m, api.Spot{X: x, Y: y}); ok || east != 0 || north != 0 {
		t.Fatal(m, x, y, east, north, ok)
	}
}

// spotOf is what 11.5 tells of metres in one of both ways, in numbers however great.
func spotOf(metres int64, begin int32, cell int) int64 {
	n := new(big.Int).Sub(big.NewInt(metres), big.NewInt(int64(begin)))
	n.Mul(n, big.NewInt(256))
	return n.Div(n, big.NewInt(int64(cell))).Int64()
}

// isMeasured fails if the place of metres, or where a place lies, is told otherwise than it should be.
func isMeasured(t *testing.T, m api.Chart, x, y int64) {
	t.Helper()
	want := api.Spot{X: spotOf(x, m.OX, m.Cell), Y: spotOf(y, m.OY, m.Cell)}
	if s, ok := terrain.Spot(m, x, y); s != want || !ok {
		t.Fatal(m, x, y, s, ok, want)
	}
	wantX, wantY := near(x, int64(m.Cell), 256)+int64(m.OX), near(y, int64(m.Cell), 256)+int64(m.OY)
	if east, north, ok := terrain.Metres(m, api.Spot{X: x, Y: y}); east != wantX || north != wantY || !ok {
		t.Fatal(m, x, y, east, north, ok, wantX, wantY)
	}
}

// 11.5: metres and places of all kinds, with cells of all kinds, be they on the map or not.
func TestMeasured(t *testing.T) {
	c := rand.New(rand.NewPCG(11, 8))
	for cell := 1; cell <= 1000; cell++ {
		m := at(cell, int32(c.Uint32())>>c.IntN(32), int32(c.Uint32())>>c.IntN(32))
		for range 30 {
			x, y := c.Int64N(1<<41+1)-1<<40, c.Int64N(1<<41+1)-1<<40
			isMeasured(t, m, x>>c.IntN(41), y>>c.IntN(41))
			isMeasured(t, m, int64(m.OX)+int64(cell)*(x>>28), int64(m.OY)+int64(cell)*(y>>28)-1)
			isMeasured(t, m, x>>8<<7, y>>9<<8)
		}
	}
}

// 11.5, R2: of a cell that no map has there is no place; where a place lies ends, too, and beside false nothing is told.
func TestNoCell(t *testing.T) {
	for _, cell := range []int{math.MinInt, -1000, -1, 0, 1001, 1 << 32, 1<<32 + 1, math.MaxInt} {
		if s, ok := terrain.Spot(at(cell, 0, 0), 5, 7); ok || s != (api.Spot{}) {
			t.Error(cell, s, ok)
		}
		for _, s := range []api.Spot{{X: 1 << 40}, {Y: -1 << 40}, {X: 1 << 40, Y: 1 << 40}} {
			if east, north, ok := terrain.Metres(at(cell, -1, 1), s); !ok && (east != 0 || north != 0) {
				t.Error(cell, s, east, north)
			}
		}
	}
}

// isHalf fails if a number that is told, so many parts of a unit, is more than half a unit away from what it is told of.
func isHalf(t *testing.T, told, exact, parts int64) {
	t.Helper()
	if away := told*parts - exact; 2*away > parts || 2*away < -parts {
		t.Fatal(told, exact, parts)
	}
}

// 11.6: grounds, slopes, and where a place lies, are no more than half a unit away from what they are without rounding.
func TestHalf(t *testing.T) {
	c := rand.New(rand.NewPCG(11, 9))
	m := anyMap(c, 40, 40, 0)
	x := made(t, m, 4)
	for range 20000 {
		s := api.Spot{X: c.Int64N(39*256 + 1), Y: c.Int64N(39*256 + 1)}
		g := groundOf(m, s)
		z, _ := terrain.Height(x, s)
		isHalf(t, z, 16*g.sum, 65536)
		wantEast, wantNorth := g.slope()
		east, north, _ := terrain.Slope(x, s)
		isHalf(t, east, 16*wantEast, 256)
		isHalf(t, north, 16*wantNorth, 256)
		s.X -= 20 * 256
		e, n, _ := terrain.Metres(m, s)
		isHalf(t, e-int64(m.OX), s.X*int64(m.Cell), 256)
		isHalf(t, n-int64(m.OY), s.Y*int64(m.Cell), 256)
	}
}

// 11.6: the place of metres lies there again, where a part of a cell is no more than half a metre; else less than a part, and half a metre away.
func TestThereAndBack(t *testing.T) {
	c := rand.New(rand.NewPCG(11, 10))
	for cell := 1; cell <= 1000; cell++ {
		m := at(cell, int32(c.Uint32()), int32(c.Uint32()))
		for range 20 {
			e, n := c.Int64N(1<<30)-1<<29, c.Int64N(1<<30)-1<<29
			s, _ := terrain.Spot(m, e, n)
			east, north, ok := terrain.Metres(m, s)
			if !ok || cell <= 128 && (east != e || north != n) {
				t.Fatal(m, e, n, s, east, north, ok)
			}
			for _, less := range []int64{e - east, n - north} {
				if 256*less >= int64(cell)+128 || 256*less < -128 {
					t.Fatal(m, e, n, s, east, north)
				}
			}
		}
	}
}

// 11.1, 11.5, R3: of a map that is handed in nothing is changed, and what lies behind its heights neither.
func TestNotChanged(t *testing.T) {
	z := []int16{1, 2, 3, 4, 5, 6}
	m := mapOf(2, z[:4]...)
	terrain.Inside(m, api.Spot{X: 256, Y: 256})
	terrain.Spot(m, 7, 8)
	terrain.Metres(m, api.Spot{X: 300, Y: -5})
	if !slices.Equal(z, []int16{1, 2, 3, 4, 5, 6}) || len(m.F.Z) != 4 || m.F.W != 2 || m.F.H != 2 || m.Cell != 30 || m.OX != -100 || m.OY != 200 {
		t.Error(m, z)
	}
}

// 11.2 to 11.5: what is asked twice is told the same way, whatever was asked between.
func TestAgain(t *testing.T) {
	c := rand.New(rand.NewPCG(11, 11))
	m := anyMap(c, 256, 256, 30)
	x := made(t, m, 4)
	var spots []api.Spot
	for range 400 {
		s := api.Spot{X: c.Int64N(256 * 256), Y: c.Int64N(256 * 256)}
		spots = append(spots, s)
		isGround(t, x, m, s)
	}
	for _, s := range spots {
		terrain.Rough(x, c.IntN(256), c.IntN(256), 8)
		isGround(t, x, m, s)
		isGround(t, x, m, s)
	}
}
