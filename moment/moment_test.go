package moment_test

import (
	"math"
	"math/big"
	"math/rand/v2"
	"slices"
	"testing"

	"theodolite/api"
	"theodolite/grid"
	"theodolite/moment"
)

const (
	whole = 1 << 30
	hi    = math.MaxInt64
	lo    = math.MinInt64
)

// laid is a grid of these sides whose first place lies at 1000, -2000, 64 parts apart.
func laid(w, h int, p ...int64) api.Grid {
	return api.Grid{W: w, H: h, X: 1000, Y: -2000, Step: 64, P: p}
}

// filled is a grid of these sides, all of whose places are believed the same.
func filled(w, h int, x int64) api.Grid { return laid(w, h, slices.Repeat([]int64{x}, w*h)...) }

// alone is a grid of these sides of which one place is believed, so much.
func alone(w, h, at int, x int64) api.Grid {
	g := filled(w, h, 0)
	g.P[at] = x
	return g
}

// anyGrid is a grid that looks like any: all, few or two of its places are believed, by all that there is, or by less, many of them as much as others.
func anyGrid(c *rand.Rand, w, h int) api.Grid {
	n := w * h
	g := api.Grid{W: w, H: h, X: c.Int64N(1<<41) - 1<<40, Y: c.Int64N(1<<41) - 1<<40, Step: 16 + c.Int64N(4081), P: make([]int64, n)}
	left := int64(whole) >> c.IntN(3)
	switch c.IntN(4) {
	case 0:
		g.P[c.IntN(n)] += left / 2
		g.P[c.IntN(n)] += left - left/2
	case 1:
		for range 1 + c.IntN(9) {
			x := c.Int64N(left + 1)
			g.P[c.IntN(n)] += x
			left -= x
		}
	case 2:
		for i := range g.P {
			g.P[i] = c.Int64N(3)
		}
	default:
		for i := range g.P {
			g.P[i] = c.Int64N(left/int64(n) + 1)
		}
	}
	return g
}

// sides is pairs of sides: the least, the greatest, lines, and others.
var sides = [][2]int{{1, 1}, {2, 1}, {1, 2}, {2, 2}, {3, 1}, {1, 3}, {3, 2}, {3, 3}, {5, 4}, {4, 7}, {1, 64}, {64, 1}, {2, 64}, {64, 2}, {63, 64}, {64, 64}}

// grids is right grids of all of these sides: none of their places is believed, the first one, the last one, one between, all alike, or any.
func grids() []api.Grid {
	c := rand.New(rand.NewPCG(15, 1))
	var all []api.Grid
	for _, s := range sides {
		w, h := s[0], s[1]
		n := w * h
		all = append(all, filled(w, h, 0), filled(w, h, 1), filled(w, h, int64(whole/n)))
		for _, at := range []int{0, n - 1, n / 2, w - 1, n - w} {
			all = append(all, alone(w, h, at, whole), alone(w, h, at, 1))
		}
		for range 12 {
			all = append(all, anyGrid(c, w, h))
		}
	}
	return all
}

// sum is, of all places, how much they are believed, times what is told of their column and row, together.
func sum(g api.Grid, of func(x, y int64) int64) *big.Int {
	all := new(big.Int)
	for y := range g.H {
		for x := range g.W {
			all.Add(all, times(big.NewInt(g.P[y*g.W+x]), big.NewInt(of(int64(x), int64(y)))))
		}
	}
	return all
}

func one(_, _ int64) int64     { return 1 }
func column(x, _ int64) int64  { return x }
func row(_, y int64) int64     { return y }
func columns(x, _ int64) int64 { return x * x }
func both(x, y int64) int64    { return x * y }
func rows(_, y int64) int64    { return y * y }

// times is a product, however great.
func times(a, b *big.Int) *big.Int { return new(big.Int).Mul(a, b) }

// down is a quotient by a number above 0, rounded down.
func down(a, b *big.Int) *big.Int { return new(big.Int).Div(a, b) }

// nearest is a quotient by a number above 0, rounded to the nearer one, to the greater one of two that are as near.
func nearest(a, b *big.Int) *big.Int {
	twice := times(big.NewInt(2), a)
	return down(twice.Add(twice, b), times(big.NewInt(2), b))
}

// plainMean is 15.1's Mean, word by word.
func plainMean(g api.Grid) (api.Spot, bool) {
	s := sum(g, one)
	if s.Sign() == 0 {
		return api.Spot{}, false
	}
	step := big.NewInt(g.Step)
	x, y := nearest(times(step, sum(g, column)), s), nearest(times(step, sum(g, row)), s)
	return api.Spot{X: g.X + x.Int64(), Y: g.Y + y.Int64()}, true
}

// isMean fails if a grid's mean is not what was asked for.
func isMean(t *testing.T, g api.Grid, want api.Spot, wantOK bool) {
	t.Helper()
	if got, ok := moment.Mean(g); ok != wantOK || got != want {
		t.Errorf("Mean of %v: %v, %v; not %v, %v", g, got, ok, want, wantOK)
	}
}

// 15.1 and the chapter's example: means told by hand.
func TestMean(t *testing.T) {
	for _, c := range []struct {
		g    api.Grid
		want api.Spot
	}{
		{laid(3, 1, whole/4, 0, 3*whole/4), api.Spot{X: 1096, Y: -2000}},
		{laid(1, 3, whole/4, 0, 3*whole/4), api.Spot{X: 1000, Y: -1904}},
		{laid(1, 1, whole), api.Spot{X: 1000, Y: -2000}},
		{laid(1, 1, 1), api.Spot{X: 1000, Y: -2000}},
		{laid(2, 2, whole, 0, 0, 0), api.Spot{X: 1000, Y: -2000}},
		{laid(2, 2, 0, whole, 0, 0), api.Spot{X: 1064, Y: -2000}},
		{laid(2, 2, 0, 0, whole, 0), api.Spot{X: 1000, Y: -1936}},
		{laid(2, 2, 0, 0, 0, whole), api.Spot{X: 1064, Y: -1936}},
		{laid(3, 2, 0, 0, 0, 0, 1, 0), api.Spot{X: 1064, Y: -1936}},
		// 25 and 15 times 64, by 21: 76.2 and 45.7.
		{laid(3, 2, 1, 2, 3, 4, 5, 6), api.Spot{X: 1076, Y: -1954}},
		{filled(64, 64, 1<<18), api.Spot{X: 3016, Y: 16}},
		{alone(64, 64, 0, whole), api.Spot{X: 1000, Y: -2000}},
		{alone(64, 64, 4095, whole), api.Spot{X: 5032, Y: 2032}},
		{alone(64, 64, 64*31+7, whole), api.Spot{X: 1448, Y: -16}},
		{alone(64, 1, 63, 5), api.Spot{X: 5032, Y: -2000}},
		{alone(1, 64, 63, 5), api.Spot{X: 1000, Y: 2032}},
	} {
		isMean(t, c.g, c.want, true)
	}
}

// 15.1: means that lie between two numbers, by how many parts further they are told; the greater one of two that are as near, on either side of 0.
func TestMeanRounded(t *testing.T) {
	for _, c := range []struct {
		step    int64
		p       []int64
		further int64
	}{
		{17, []int64{1, 1}, 9}, {17, []int64{3, 1}, 4}, {17, []int64{1, 3}, 13},
		{18, []int64{3, 1}, 5}, {18, []int64{1, 3}, 14}, {22, []int64{3, 1}, 6},
		{16, []int64{2, 1}, 5}, {16, []int64{1, 2}, 11},
		{16, []int64{whole - 1<<25, 1 << 25}, 1}, {16, []int64{whole - 1<<25 + 1, 1<<25 - 1}, 0},
		{16, []int64{1 << 25, whole - 1<<25}, 16}, {16, []int64{1<<25 + 1, whole - 1<<25 - 1}, 15},
		{4096, []int64{whole - 1<<17, 1 << 17}, 1}, {4096, []int64{whole - 1<<17 + 1, 1<<17 - 1}, 0},
		{4096, []int64{0, 7}, 4096}, {4095, []int64{5, 5}, 2048}, {4096, []int64{whole / 2, whole / 2}, 2048},
	} {
		for _, at := range []int64{0, -1, -4, -9, -10, 1 << 40, -1 << 40, -2048, lo, lo + 1, hi - 4096} {
			isMean(t, api.Grid{W: 2, H: 1, X: at, Y: -at, Step: c.step, P: c.p}, api.Spot{X: at + c.further, Y: -at}, true)
			isMean(t, api.Grid{W: 1, H: 2, X: ^at, Y: at, Step: c.step, P: c.p}, api.Spot{X: ^at, Y: at + c.further}, true)
		}
	}
}

// 15.1: means at the ends of 64 bits.
func TestMeanEnds(t *testing.T) {
	for _, step := range []int64{16, 4096} {
		first, last := alone(64, 64, 0, whole), alone(64, 64, 4095, whole)
		for _, c := range []api.Spot{{X: lo, Y: lo}, {X: hi, Y: lo}, {X: lo, Y: hi}, {X: hi, Y: hi}, {X: -1, Y: 0}} {
			first.X, first.Y, first.Step = c.X, c.Y, step
			isMean(t, first, c, true)
		}
		for _, c := range []api.Spot{{X: lo, Y: lo}, {X: hi - 63*step, Y: lo}, {X: -1, Y: hi - 63*step}} {
			last.X, last.Y, last.Step = c.X, c.Y, step
			isMean(t, last, api.Spot{X: c.X + 63*step, Y: c.Y + 63*step}, true)
		}
	}
}

// 15.1: means of grids of all kinds, with the least and the greatest Step, too.
func TestMeanAll(t *testing.T) {
	for _, g := range grids() {
		for _, step := range []int64{g.Step, 16, 17, 4095, 4096} {
			g.Step = step
			want, ok := plainMean(g)
			isMean(t, g, want, ok)
		}
	}
}

// 15.5: the mean lies within the grid.
func TestMeanWithin(t *testing.T) {
	for _, g := range grids() {
		s, ok := moment.Mean(g)
		first, _ := grid.At(g, 0)
		last, _ := grid.At(g, len(g.P)-1)
		if ok && (s.X < first.X || s.X > last.X || s.Y < first.Y || s.Y > last.Y) {
			t.Error(g, s)
		}
	}
}

// plainVary is 15.2's Vary, word by word.
func plainVary(g api.Grid) (moment.Spread, bool) {
	s := sum(g, one)
	if s.Sign() == 0 {
		return moment.Spread{}, false
	}
	of := func(products, a, b *big.Int) int64 {
		over := new(big.Int).Sub(times(s, products), times(a, b))
		return down(times(big.NewInt(65536), over), times(s, s)).Int64()
	}
	x, y := sum(g, column), sum(g, row)
	return moment.Spread{XX: of(sum(g, columns), x, x), XY: of(sum(g, both), x, y), YY: of(sum(g, rows), y, y)}, true
}

// isVary fails if how far about a grid is believed is not what was asked for.
func isVary(t *testing.T, g api.Grid, want moment.Spread, wantOK bool) {
	t.Helper()
	if got, ok := moment.Vary(g); ok != wantOK || got != want {
		t.Errorf("Vary of %v: %v, %v; not %v, %v", g, got, ok, want, wantOK)
	}
}

// 15.2: how far about, told by hand.
func TestVary(t *testing.T) {
	for _, c := range []struct {
		g    api.Grid
		want moment.Spread
	}{
		{laid(3, 1, whole/4, 0, 3*whole/4), moment.Spread{XX: 49152}},
		{laid(1, 3, whole/4, 0, 3*whole/4), moment.Spread{YY: 49152}},
		{laid(1, 1, whole), moment.Spread{}},
		{laid(1, 1, 1), moment.Spread{}},
		{filled(2, 2, whole/4), moment.Spread{XX: 16384, YY: 16384}},
		{filled(2, 2, 1), moment.Spread{XX: 16384, YY: 16384}},
		// 4095 twelfths of 65536.
		{filled(64, 64, 1<<18), moment.Spread{XX: 22364160, YY: 22364160}},
		{filled(64, 1, 1), moment.Spread{XX: 22364160}},
		{filled(1, 64, 1), moment.Spread{YY: 22364160}},
		{alone(64, 64, 4095, whole), moment.Spread{}},
		{alone(64, 64, 1984, whole), moment.Spread{}},
		{laid(2, 2, 7, 0, 0, 7), moment.Spread{XX: 16384, XY: 16384, YY: 16384}},
		{laid(2, 2, 0, 7, 7, 0), moment.Spread{XX: 16384, XY: -16384, YY: 16384}},
		// 2, -1 and 2 ninths of 65536: a rest is left by each.
		{laid(2, 2, 0, 1, 1, 1), moment.Spread{XX: 14563, XY: -7282, YY: 14563}},
		{laid(2, 2, 1, 1, 0, 1), moment.Spread{XX: 14563, XY: 7281, YY: 14563}},
		{laid(3, 1, 1, 1, 0), moment.Spread{XX: 16384}},
		{laid(3, 1, 1, 1, 1), moment.Spread{XX: 43690}},
	} {
		isVary(t, c.g, c.want, true)
	}
}

// 15.2: halves of what there is, as far apart as may be, and next to nothing of it.
func TestVaryEnds(t *testing.T) {
	far := filled(64, 64, 0)
	far.P[0], far.P[4095] = whole/2, whole/2
	// 63 times 63 quarters of 65536.
	isVary(t, far, moment.Spread{XX: 65028096, XY: 65028096, YY: 65028096}, true)
	across := filled(64, 64, 0)
	across.P[63], across.P[4032] = whole/2, whole/2
	isVary(t, across, moment.Spread{XX: 65028096, XY: -65028096, YY: 65028096}, true)
	little := filled(64, 64, 0)
	little.P[0], little.P[4095] = whole-1, 1
	// 3969 times 65536, by 2^30, but for what is less than a part of it.
	isVary(t, little, moment.Spread{}, true)
	little.P[0], little.P[4095] = whole-8, 8
	isVary(t, little, moment.Spread{XX: 1, XY: 1, YY: 1}, true)
	little.P[63], little.P[4032] = whole-8, 8
	little.P[0], little.P[4095] = 0, 0
	isVary(t, little, moment.Spread{XX: 1, XY: -2, YY: 1}, true)
}

// 15.2: how far about, of grids of all kinds; where a grid lies, and by which steps, is nothing to it.
func TestVaryAll(t *testing.T) {
	for _, g := range grids() {
		want, ok := plainVary(g)
		isVary(t, g, want, ok)
		for _, step := range []int64{16, 4096} {
			g.X, g.Y, g.Step = hi, lo, step
			isVary(t, g, want, ok)
		}
	}
}

// isMore tells whether two numbers are more than far apart.
func isMore(a, b, far int) bool { return a-b > far || b-a > far || far < 0 }

// near is 15.3's near, word by word.
func near(g api.Grid, i, j, far int) bool {
	return !isMore(i%g.W, j%g.W, far) && !isMore(i/g.W, j/g.W, far)
}

// plainBest is, of the places that are told, and believed at all, the first one of those that none is believed more than; -1, if there is none.
func plainBest(g api.Grid, which []int) int {
	most := int64(0)
	for _, i := range which {
		most = max(most, g.P[i])
	}
	k := slices.IndexFunc(which, func(i int) bool { return most > 0 && g.P[i] == most })
	if k < 0 {
		return -1
	}
	return which[k]
}

// plainPeak is 15.3's Peak, word by word.
func plainPeak(g api.Grid) int {
	var all []int
	for i := range g.P {
		all = append(all, i)
	}
	return plainBest(g, all)
}

// plainSecond is 15.3's Second, word by word; where nothing is believed there is no Peak, and nothing to be told.
func plainSecond(g api.Grid, far int) int {
	peak := plainPeak(g)
	var others []int
	for i := range g.P {
		if peak >= 0 && !near(g, i, peak, far) {
			others = append(others, i)
		}
	}
	return plainBest(g, others)
}

// fars is how far a place may be from another one: those at which something changes, the ends of all numbers, and such as would be 0 or 1, were they cut off.
var fars = []int{0, 1, 2, 3, 62, 63, 64, 1 << 32, math.MaxInt - 1, math.MaxInt, -1, -2, -64, -1 << 32, -1<<32 + 1, math.MinInt, math.MinInt + 1}

// 15.3: peaks told by hand.
func TestPeak(t *testing.T) {
	for _, c := range []struct {
		g    api.Grid
		want int
	}{
		{laid(3, 1, whole/4, 0, 3*whole/4), 2},
		{laid(1, 1, whole), 0}, {laid(1, 1, 1), 0}, {laid(1, 1, 0), -1},
		{laid(2, 2, 0, 0, 0, 0), -1},
		{laid(2, 2, 5, 5, 5, 5), 0}, {laid(2, 2, 4, 5, 5, 5), 1}, {laid(2, 2, 4, 4, 5, 5), 2}, {laid(2, 2, 4, 4, 4, 5), 3},
		{laid(2, 2, 0, 1, 0, 1), 1}, {laid(3, 2, 3, 9, 2, 9, 8, 9), 1}, {laid(3, 2, 0, 0, 9, 9, 0, 0), 2},
		{filled(64, 64, 1), 0}, {filled(64, 64, 0), -1}, {alone(64, 64, 4095, 1), 4095}, {alone(64, 64, 2080, whole), 2080},
		{alone(1, 64, 63, 2), 63}, {alone(64, 1, 63, 2), 63},
	} {
		if got := moment.Peak(c.g); got != c.want {
			t.Error(c.g, got)
		}
	}
	for _, g := range grids() {
		if got := moment.Peak(g); got != plainPeak(g) {
			t.Error(g, got)
		}
	}
}

// 15.3: second peaks told by hand.
func TestSecond(t *testing.T) {
	ring := laid(5, 5,
		3, 0, 0, 0, 4,
		0, 5, 6, 6, 2,
		0, 5, 9, 6, 0,
		0, 1, 1, 7, 0,
		4, 0, 0, 0, 0)
	ends := filled(64, 64, 0)
	ends.P[0], ends.P[63], ends.P[4032], ends.P[4095] = 9, 8, 8, 8
	for _, c := range []struct {
		g         api.Grid
		far, want int
	}{
		{laid(3, 1, whole/4, 0, 3*whole/4), 0, 0}, {laid(3, 1, whole/4, 0, 3*whole/4), 1, 0},
		{laid(3, 1, whole/4, 0, 3*whole/4), 2, -1}, {laid(3, 1, whole/4, 0, 3*whole/4), 5, -1},
		{laid(1, 3, whole/4, 0, 3*whole/4), 1, 0}, {laid(1, 3, whole/4, 0, 3*whole/4), 2, -1},
		{ring, 0, 18}, {ring, 1, 4}, {ring, 2, -1}, {ring, 3, -1}, {ring, 64, -1},
		// What is in another row by two is not near, though it is in the same column, and the other way round.
		{laid(1, 4, 9, 8, 7, 6), 1, 2}, {laid(4, 1, 9, 8, 7, 6), 1, 2}, {laid(2, 3, 9, 8, 8, 8, 0, 3), 1, 5}, {laid(3, 2, 9, 8, 3, 8, 8, 0), 1, 2},
		// Far away nothing is believed.
		{laid(4, 1, 9, 8, 0, 0), 1, -1}, {laid(4, 1, 9, 0, 0, 0), 0, -1}, {alone(64, 64, 70, whole), 0, -1}, {alone(64, 64, 70, whole), 3, -1},
		// As much as the peak itself.
		{laid(4, 1, 5, 5, 5, 5), 0, 1}, {laid(4, 1, 5, 5, 5, 5), 1, 2}, {laid(4, 1, 5, 5, 5, 5), 2, 3}, {laid(4, 1, 5, 5, 5, 5), 3, -1},
		{filled(64, 64, 1), 0, 1}, {filled(64, 64, 1), 62, 63}, {filled(64, 64, 1), 63, -1}, {filled(64, 64, 1), 64, -1},
		{ends, 0, 63}, {ends, 62, 63}, {ends, 63, -1}, {ends, 64, -1},
		// The end of a row is not near the beginning of the next one.
		{laid(3, 2, 0, 0, 9, 8, 7, 0), 1, 3},
		{laid(1, 1, whole), 0, -1}, {laid(1, 1, whole), 64, -1},
	} {
		if got := moment.Second(c.g, c.far); got != c.want {
			t.Error(c.g, c.far, got)
		}
	}
}

// 15.3: second peaks of grids of all kinds; below 0 no place is near, not the Peak itself.
func TestSecondAll(t *testing.T) {
	for _, g := range grids() {
		for _, far := range fars {
			if got := moment.Second(g, far); got != plainSecond(g, far) {
				t.Error(g, far, got)
			}
			if got := moment.Second(g, far); far < 0 && got != plainPeak(g) {
				t.Error(g, far, got)
			}
		}
	}
}

// plainSum is the sum of the places of which something is so.
func plainSum(g api.Grid, is func(i int) bool) int64 {
	all := new(big.Int)
	for i, x := range g.P {
		if is(i) {
			all.Add(all, big.NewInt(x))
		}
	}
	return all.Int64()
}

// plainAround is 15.4's Around, word by word.
func plainAround(g api.Grid, at, far int) int64 {
	if at < 0 || at >= len(g.P) {
		return 0
	}
	return plainSum(g, func(i int) bool { return near(g, i, at, far) })
}

// wrongPlaces is places that a grid has none of: those next to the ends, the ends of all numbers, and such as it would have, were they cut off.
func wrongPlaces(g api.Grid) []int {
	n := len(g.P)
	return []int{-1, -2, -g.W, -n, n, n + 1, 2 * n, 4096, 1 << 32, -1 << 32, math.MaxInt, math.MaxInt - 1, math.MinInt, math.MinInt + 1}
}

// 15.4: what is around places, told by hand.
func TestAround(t *testing.T) {
	g := laid(4, 3,
		1, 2, 4, 8,
		16, 32, 64, 128,
		256, 512, 1024, 2048)
	for _, c := range []struct {
		at, far int
		want    int64
	}{
		{0, 0, 1}, {3, 0, 8}, {8, 0, 256}, {11, 0, 2048}, {5, 0, 32},
		{0, 1, 1 + 2 + 16 + 32}, {3, 1, 4 + 8 + 64 + 128}, {8, 1, 16 + 32 + 256 + 512}, {11, 1, 64 + 128 + 1024 + 2048},
		{5, 1, 4095 - 8 - 128 - 2048}, {4, 1, 1 + 2 + 16 + 32 + 256 + 512}, {0, 2, 4095 - 8 - 128 - 2048}, {7, 2, 4095 - 1 - 16 - 256},
		{0, 3, 4095}, {0, 64, 4095}, {5, 2, 4095}, {11, 64, 4095}, {0, math.MaxInt, 4095}, {11, math.MaxInt, 4095},
		{0, -1, 0}, {5, -1, 0}, {0, math.MinInt, 0}, {11, math.MinInt, 0}, {-1, 0, 0}, {12, 0, 0}, {-1, 64, 0}, {12, 64, 0},
	} {
		if got := moment.Around(g, c.at, c.far); got != c.want {
			t.Error(c, got)
		}
	}
}

// 15.4: what is around places, of grids of all kinds, and around such as there are not.
func TestAroundAll(t *testing.T) {
	for _, g := range grids() {
		n := len(g.P)
		for _, far := range fars {
			for _, at := range []int{0, n - 1, n / 2, g.W - 1, n - g.W} {
				if got := moment.Around(g, at, far); got != plainAround(g, at, far) {
					t.Error(g, at, far, got)
				}
			}
			for _, at := range wrongPlaces(g) {
				if got := moment.Around(g, at, far); got != plainAround(g, at, far) {
					t.Error(g, at, far, got)
				}
			}
		}
	}
}

// plainEdge is 15.4's Edge, word by word.
func plainEdge(g api.Grid) int64 {
	return plainSum(g, func(i int) bool {
		x, y := i%g.W, i/g.W
		return slices.Contains([]int{0, g.W - 1}, x) || slices.Contains([]int{0, g.H - 1}, y)
	})
}

// 15.4: edges; what lies in two of them counts once.
func TestEdge(t *testing.T) {
	for _, c := range []struct {
		g    api.Grid
		want int64
	}{
		{laid(1, 1, 5), 5}, {laid(1, 1, whole), whole}, {laid(1, 1, 0), 0},
		{laid(4, 1, 1, 2, 3, 4), 10}, {laid(1, 4, 1, 2, 3, 4), 10}, {laid(2, 2, 1, 2, 3, 4), 10},
		{laid(2, 3, 1, 2, 3, 4, 5, 6), 21}, {laid(3, 2, 1, 2, 3, 4, 5, 6), 21},
		{laid(3, 3, 1, 2, 4, 8, 16, 32, 64, 128, 256), 511 - 16},
		{laid(4, 3, 1, 2, 4, 8, 16, 32, 64, 128, 256, 512, 1024, 2048), 4095 - 32 - 64},
		{laid(3, 4, 1, 2, 4, 8, 16, 32, 64, 128, 256, 512, 1024, 2048), 4095 - 16 - 128},
		{filled(2, 2, whole/4), whole}, {filled(3, 3, 0), 0}, {alone(3, 3, 4, whole), 0}, {alone(3, 3, 3, whole), whole},
		{filled(64, 64, 1), 252}, {alone(64, 64, 65, whole), 0}, {alone(64, 64, 63*63, whole), 0}, {alone(64, 64, 4095, whole), whole},
	} {
		if got := moment.Edge(c.g); got != c.want {
			t.Error(c.g, got)
		}
	}
	for _, g := range grids() {
		if got := moment.Edge(g); got != plainEdge(g) {
			t.Error(g, got)
		}
	}
}

// plainEven is 15.4's Even, word by word: of the numbers from 0 to how many places there are the greatest one that may be.
func plainEven(g api.Grid) int64 {
	s, squares := sum(g, one), new(big.Int)
	if s.Sign() == 0 {
		return 0
	}
	for _, x := range g.P {
		squares.Add(squares, times(big.NewInt(x), big.NewInt(x)))
	}
	n := int64(len(g.P))
	for times(big.NewInt(n), squares).Cmp(times(s, s)) > 0 {
		n--
	}
	return n
}

// 15.4: how many places would be believed as much.
func TestEven(t *testing.T) {
	for _, c := range []struct {
		g    api.Grid
		want int64
	}{
		{laid(1, 1, whole), 1}, {laid(1, 1, 1), 1}, {laid(1, 1, 0), 0},
		{filled(2, 2, whole/4), 4}, {filled(2, 2, 1), 4}, {filled(2, 2, 0), 0}, {filled(3, 1, 357913941), 3},
		{filled(64, 64, 1<<18), 4096}, {filled(64, 64, 1), 4096}, {filled(64, 64, 0), 0},
		{alone(64, 64, 0, whole), 1}, {alone(64, 64, 4095, 1), 1}, {alone(64, 64, 2000, whole), 1},
		{laid(4, 1, 0, 7, 0, 7), 2}, {laid(4, 1, whole/2, 0, 0, whole/2), 2}, {laid(1, 5, 0, 7, 7, 0, 7), 3},
		// 9 by 5, 16 by 10, 36 by 14, and 25 by 13: a rest is left by each.
		{laid(2, 1, 1, 2), 1}, {laid(2, 1, 1, 3), 1}, {laid(3, 1, 1, 2, 3), 2}, {laid(2, 1, 2, 3), 1},
		// 100 by 30, and just three; the square of whole by a little less than half of it.
		{laid(2, 2, 1, 2, 3, 4), 3}, {laid(2, 2, 1, 1, 1, 3), 3}, {laid(2, 1, whole/2+1, whole/2-1), 1},
	} {
		if got := moment.Even(c.g); got != c.want {
			t.Error(c.g, got)
		}
	}
	for _, g := range grids() {
		got := moment.Even(g)
		if got != plainEven(g) || got > int64(len(g.P)) {
			t.Error(g, got)
		}
	}
}

// Of each call: where nothing is believed there is nothing, whatever the sides.
func TestNothingBelieved(t *testing.T) {
	for _, s := range sides {
		g := filled(s[0], s[1], 0)
		isNothing(t, g)
		g.X, g.Y, g.Step = hi, lo, 4096
		isNothing(t, g)
	}
}

// isNothing fails if something is told of a grid in which nothing is believed.
func isNothing(t *testing.T, g api.Grid) {
	t.Helper()
	isMean(t, g, api.Spot{}, false)
	isVary(t, g, moment.Spread{}, false)
	if i := moment.Peak(g); i != -1 {
		t.Error("Peak", g, i)
	}
	for _, far := range fars {
		if i := moment.Second(g, far); i != -1 {
			t.Error("Second", g, far, i)
		}
		for _, at := range append(wrongPlaces(g), 0, 1, len(g.P)-1) {
			if x := moment.Around(g, at, far); x != 0 {
				t.Error("Around", g, at, far, x)
			}
		}
	}
	if x := moment.Edge(g); x != 0 {
		t.Error("Edge", g, x)
	}
	if x := moment.Even(g); x != 0 {
		t.Error("Even", g, x)
	}
}

// calls is all calls, by names.
var calls = map[string]func(g api.Grid){
	"Mean":   func(g api.Grid) { moment.Mean(g) },
	"Vary":   func(g api.Grid) { moment.Vary(g) },
	"Peak":   func(g api.Grid) { moment.Peak(g) },
	"Second": func(g api.Grid) { moment.Second(g, 1) },
	"Around": func(g api.Grid) { moment.Around(g, 1, 1) },
	"Edge":   func(g api.Grid) { moment.Edge(g) },
	"Even":   func(g api.Grid) { moment.Even(g) },
}

// Of each call: the grid is as it was behind it, and what lies behind its places, too, which counts for nothing.
func TestNotChanged(t *testing.T) {
	for name, call := range calls {
		for _, g := range grids() {
			was := slices.Concat(g.P, slices.Repeat([]int64{whole}, 70))
			behind := slices.Clone(was)
			g.P = behind[:len(g.P)]
			call(g)
			if !slices.Equal(behind, was) {
				t.Error(name, g)
			}
		}
	}
	behind := slices.Repeat([]int64{1, 2, 3, whole, whole, whole, whole}, 2)
	g := laid(3, 1, behind[:3]...)
	isMean(t, g, api.Spot{X: 1085, Y: -2000}, true)
	if got := [5]int64{int64(moment.Peak(g)), int64(moment.Second(g, 1)), moment.Around(g, 2, 1), moment.Edge(g), moment.Even(g)}; got != [5]int64{2, 0, 5, 6, 2} {
		t.Error(got)
	}
}

// Nothing is kept: what was asked ahead of a call is nothing to it.
func TestNothingKept(t *testing.T) {
	first, other := laid(3, 1, 1, 0, 3), filled(64, 64, 9)
	for name, call := range calls {
		call(first)
		call(other)
		if s, _ := moment.Mean(first); s != (api.Spot{X: 1096, Y: -2000}) || moment.Peak(first) != 2 || moment.Even(first) != 1 {
			t.Error(name, s)
		}
	}
}

// P0: of grids that are not right nothing is promised, but that all calls end; where there are no such places as the sides tell of, there is nothing.
func TestWrongGridsEnd(t *testing.T) {
	noPlaces := []api.Grid{{}, {P: []int64{1, 2}}, {W: 2, P: []int64{1, 2}}, {H: 2, P: []int64{1, 2}}, laid(2, 2), laid(2, 2, 1, 2, 3), laid(2, 2, 1, 2, 3, 4, 5), laid(64, 64, 1)}
	for _, s := range []int{0, -1, -2, 65, 1 << 32, 1<<62 + 2, math.MaxInt, math.MinInt, math.MinInt + 2} {
		noPlaces = append(noPlaces, laid(s, 2, 1, 2), laid(2, s, 1, 2), laid(s, s), laid(s, s, 1, 2, 3, 4), laid(s, 1, 1, 2, 3))
	}
	for _, g := range noPlaces {
		isNothing(t, g)
	}
	for _, p := range [][]int64{{lo, lo, hi, hi}, {-1, 1, 0, 0}, {-1, -1, -1, -1}, {hi, hi, hi, hi}, {1 << 32, 0, 0, 0}, {1 << 63 >> 1, 1 << 62, 1 << 62, 1 << 62}, {-5, 3, 1, 0}} {
		for _, step := range []int64{0, -1, 15, 4097, hi, lo} {
			allEnd(api.Grid{W: 2, H: 2, X: hi, Y: lo, Step: step, P: p})
		}
	}
}

// allEnd asks all calls of a grid.
func allEnd(g api.Grid) {
	for _, call := range calls {
		call(g)
	}
	for _, far := range fars {
		moment.Second(g, far)
		for _, at := range wrongPlaces(g) {
			moment.Around(g, at, far)
		}
	}
}
