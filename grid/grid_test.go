package grid_test

import (
	"math"
	"math/big"
	"math/rand/v2"
	"slices"
	"testing"

	"theodolite/api"
	"theodolite/grid"
	"theodolite/wide"
)

const (
	whole = 1 << 30
	hi    = math.MaxInt64
	lo    = math.MinInt64
)

// laid is a grid of these sides whose first place lies at 1000, -2000, 64 parts apart.
func laid(w, h int, p ...int64) api.Grid {
	return api.Grid{W: w, H: h, X: 1000, Y: -2000, Step: 64, P: p}
}

// filled is a grid of these sides, all of whose places are believed the same.
func filled(w, h int, x int64) api.Grid { return laid(w, h, slices.Repeat([]int64{x}, w*h)...) }

// steep is a grid whose places are believed all that there is together, each another number, the first and the last one the most.
func steep(w, h int) api.Grid {
	g := filled(w, h, 0)
	left := int64(whole)
	for i := range g.P {
		g.P[i] = min(left, int64(i*i%97+i))
		left -= g.P[i]
	}
	g.P[0] += left / 3
	g.P[w*h-1] += left - left/3
	return g
}

// anyGrid is a grid that looks like any: all, few or one of its places are believed, by all that there is, or by less.
func anyGrid(c *rand.Rand, w, h int) api.Grid {
	g := api.Grid{W: w, H: h, X: c.Int64N(1<<41) - 1<<40, Y: c.Int64N(1<<41) - 1<<40, Step: 16 + c.Int64N(4081), P: make([]int64, w*h)}
	left := int64(whole) >> c.IntN(3)
	switch c.IntN(3) {
	case 0:
		g.P[c.IntN(w*h)] = left
	case 1:
		for range 1 + c.IntN(5) {
			x := c.Int64N(left + 1)
			g.P[c.IntN(w*h)] += x
			left -= x
		}
	default:
		for i := range g.P {
			g.P[i] = c.Int64N(left/int64(w*h) + 1)
		}
	}
	return g
}

// sides is pairs of sides: the least, the greatest, lines, and others.
var sides = [][2]int{{1, 1}, {2, 1}, {1, 2}, {2, 2}, {3, 3}, {5, 4}, {4, 6}, {7, 3}, {1, 64}, {64, 1}, {32, 32}, {33, 32}, {32, 33}, {63, 64}, {64, 64}}

// grids is right grids of all of these sides.
func grids() []api.Grid {
	c := rand.New(rand.NewPCG(14, 1))
	var all []api.Grid
	for _, s := range sides {
		all = append(all, steep(s[0], s[1]), filled(s[0], s[1], 0), filled(s[0], s[1], int64(whole/(s[0]*s[1]))))
		for range 4 {
			all = append(all, anyGrid(c, s[0], s[1]))
		}
	}
	return all
}

// copied is the same grid in other memory, none of it behind P's length.
func copied(g api.Grid) api.Grid {
	p := make([]int64, len(g.P))
	copy(p, g.P)
	g.P = p
	return g
}

// same tells whether two grids are the same, P nil and P empty being one.
func same(a, b api.Grid) bool {
	return a.W == b.W && a.H == b.H && a.X == b.X && a.Y == b.Y && a.Step == b.Step && slices.Equal(a.P, b.P)
}

// is fails if a grid and a code are not those that were asked for.
func is(t *testing.T, what string, got api.Grid, code api.Code, want api.Grid, wantCode api.Code) {
	t.Helper()
	if code != wantCode || !same(got, want) {
		t.Errorf("%s: %v, %v; not %v, %v", what, got, code, want, wantCode)
	}
}

// cell is how much the place in a column and a row is believed, and whether there is one.
func cell(g api.Grid, x, y int) (int64, bool) {
	if x < 0 || x >= g.W || y < 0 || y >= g.H {
		return 0, false
	}
	return g.P[g.W*y+x], true
}

// sum is numbers together, however great.
func sum(p []int64) *big.Int {
	all := new(big.Int)
	for _, x := range p {
		all.Add(all, big.NewInt(x))
	}
	return all
}

// times is a product, however great.
func times(a, b int64) *big.Int { return new(big.Int).Mul(big.NewInt(a), big.NewInt(b)) }

// part is a, times 2^30, divided by b, without a rest.
func part(a, b *big.Int) int64 {
	n := new(big.Int).Mul(a, big.NewInt(whole))
	return n.Div(n, b).Int64()
}

// 14.1: Len and Sum.
func TestLenSum(t *testing.T) {
	for _, s := range sides {
		if n := grid.Len(filled(s[0], s[1], 1)); n != s[0]*s[1] {
			t.Error(s, n)
		}
	}
	for _, c := range []struct {
		p    []int64
		want int64
	}{
		{nil, 0}, {[]int64{}, 0}, {[]int64{0, 0}, 0}, {[]int64{5}, 5}, {[]int64{1, 2, 3, 4}, 10},
		{[]int64{whole}, whole}, {[]int64{whole, whole, whole, whole}, 1 << 32}, {[]int64{-1, 3}, 2},
	} {
		if got := grid.Sum(api.Grid{W: 2, H: 2, P: c.p}); got != c.want {
			t.Error(c.p, got)
		}
	}
	for _, g := range grids() {
		if got := grid.Sum(g); got != sum(g.P).Int64() {
			t.Error(g, got)
		}
	}
}

// 14.1: grids that are right, at each end.
func TestCheckRight(t *testing.T) {
	for _, s := range sides {
		w, h := s[0], s[1]
		n := int64(w * h)
		g := filled(w, h, 0)
		for _, all := range []int64{whole, whole - 1, whole - n + 1, whole - n} {
			for _, i := range []int64{0, n - 1, n / 2} {
				clear(g.P)
				g.P[i] = all
				for _, step := range []int64{16, 17, 64, 4095, 4096} {
					g.Step = step
					if code := grid.Check(g); code != api.OK {
						t.Error(s, all, i, step, code)
					}
				}
			}
		}
		if code := grid.Check(steep(w, h)); code != api.OK {
			t.Error(s, code)
		}
	}
	far := filled(2, 2, whole/4)
	for _, x := range []int64{lo, -1, 0, hi} {
		far.X, far.Y = x, -x
		if code := grid.Check(far); code != api.OK {
			t.Error(x, code)
		}
	}
}

// wrongSides and wrongSteps are what no side, and no Step, may be: those next to the ends, the ends of all numbers, and such as would be right were they cut off, or whose product would be.
var (
	wrongSides = []int{0, -1, -2, -64, 65, 66, 128, 1 << 16, 1 << 32, 1<<32 + 2, 1<<62 + 2, math.MaxInt, math.MaxInt - 1, math.MinInt, math.MinInt + 2}
	wrongSteps = []int64{0, -1, -64, 15, 4097, 1 << 16, 1<<32 + 64, hi, lo, lo + 64}
)

// 14.1: sides and Steps that may not be, whatever else is wrong.
func TestCheckRange(t *testing.T) {
	for _, s := range wrongSides {
		for _, g := range []api.Grid{
			{W: s, H: 2, Step: 64, P: make([]int64, 4)}, {W: 2, H: s, Step: 64, P: make([]int64, 4)}, {W: s, H: s, Step: 64, P: []int64{whole}},
			{W: s, H: 1, Step: 64}, {W: 64, H: s, Step: 64, P: []int64{-1, whole, whole}},
		} {
			if code := grid.Check(g); code != api.ErrRange {
				t.Error(g, code)
			}
		}
	}
	for _, step := range wrongSteps {
		for _, p := range [][]int64{{whole, 0}, {whole}, {-1, 0}, {0, 0}, nil} {
			if code := grid.Check(api.Grid{W: 2, H: 1, Step: step, P: p}); code != api.ErrRange {
				t.Error(step, p, code)
			}
		}
	}
	if code := grid.Check(api.Grid{W: 65, H: 1, Step: 64, P: append(make([]int64, 64), whole)}); code != api.ErrRange {
		t.Error(code)
	}
	if code := grid.Check(api.Grid{}); code != api.ErrRange {
		t.Error(code)
	}
}

// 14.1: how many P there are, how much each is believed, and all together, in that order.
func TestCheckPlaces(t *testing.T) {
	for _, s := range sides {
		w, h := s[0], s[1]
		n := w * h
		for _, size := range []int{0, n - 1, n + 1, 2 * n} {
			for _, x := range []int64{0, -1, whole, whole + 1} {
				if code := grid.Check(laid(w, h, slices.Repeat([]int64{x}, size)...)); code != api.ErrSize {
					t.Error(s, size, x, code)
				}
			}
		}
		for _, x := range []int64{-1, whole + 1, lo, hi, -whole, 1 << 32} {
			for _, i := range []int{0, n / 2, n - 1} {
				g := filled(w, h, 0)
				g.P[n-1-i] = whole
				g.P[i] = x
				if code := grid.Check(g); code != api.ErrArg {
					t.Error(s, x, i, code)
				}
			}
		}
		low, none := filled(w, h, 0), filled(w, h, 0)
		low.P[n/2] = whole - int64(n) - 1
		for _, g := range []api.Grid{low, none} {
			if code := grid.Check(g); code != api.ErrState {
				t.Error(s, g, code)
			}
		}
		if n == 1 {
			continue
		}
		above, most := steep(w, h), filled(w, h, whole)
		above.P[n/2]++
		for _, g := range []api.Grid{above, most} {
			if code := grid.Check(g); code != api.ErrState {
				t.Error(s, g, code)
			}
		}
	}
	// Numbers that would be right together are still wrong one by one.
	if code := grid.Check(laid(2, 1, whole+1, -1)); code != api.ErrArg {
		t.Error(code)
	}
}

// 14.2: all places alike, of all sides that may be.
func TestEven(t *testing.T) {
	for w := 1; w <= 64; w++ {
		for h := 1; h <= 64; h++ {
			g, code := grid.Even(w, h, -5, 7, 16)
			want := api.Grid{W: w, H: h, X: -5, Y: 7, Step: 16, P: slices.Repeat([]int64{int64(whole / (w * h))}, w*h)}
			is(t, "Even", g, code, want, api.OK)
			if code := grid.Check(g); code != api.OK {
				t.Error(w, h, code)
			}
		}
	}
	g, code := grid.Even(3, 3, hi, lo, 4096)
	is(t, "Even", g, code, api.Grid{W: 3, H: 3, X: hi, Y: lo, Step: 4096, P: slices.Repeat([]int64{119304647}, 9)}, api.OK)
}

// 14.2: what Even refuses; there is no grid then.
func TestEvenRange(t *testing.T) {
	none := func(w, h int, step int64) {
		t.Helper()
		g, code := grid.Even(w, h, 1, 2, step)
		is(t, "Even", g, code, api.Grid{}, api.ErrRange)
	}
	for _, s := range wrongSides {
		none(s, 2, 64)
		none(2, s, 64)
		none(s, s, 64)
		none(s, 2, 0)
	}
	for _, step := range wrongSteps {
		none(2, 2, step)
		none(64, 64, step)
	}
}

// plainNormal is 14.2's Normal, word by word.
func plainNormal(g api.Grid) (api.Grid, api.Code) {
	all := sum(g.P)
	if all.Sign() == 0 {
		return g, api.ErrNone
	}
	out := copied(g)
	for i, x := range g.P {
		out.P[i] = part(big.NewInt(x), all)
	}
	return out, api.OK
}

// 14.2: what is believed, made whole again.
func TestNormal(t *testing.T) {
	for _, c := range []struct{ p, want []int64 }{
		{[]int64{1, 0, 0, 0}, []int64{whole, 0, 0, 0}},
		{[]int64{0, 0, 1, 1}, []int64{0, 0, whole / 2, whole / 2}},
		{[]int64{0, 1, 1, 1}, []int64{0, 357913941, 357913941, 357913941}},
		{[]int64{1, 2, 3, 4}, []int64{107374182, 214748364, 322122547, 429496729}},
		{[]int64{whole, 0, 0, 0}, []int64{whole, 0, 0, 0}},
		{[]int64{whole / 4, whole / 4, whole / 2, 0}, []int64{whole / 4, whole / 4, whole / 2, 0}},
		{[]int64{whole - 2, 0, 0, 1}, []int64{whole - 2, 0, 0, 1}},
		{[]int64{whole - 4, 0, 0, 3}, []int64{whole - 4, 0, 0, 3}},
	} {
		got, code := grid.Normal(laid(2, 2, c.p...))
		is(t, "Normal", got, code, laid(2, 2, c.want...), api.OK)
	}
	for _, g := range grids() {
		got, code := grid.Normal(g)
		want, wantCode := plainNormal(g)
		is(t, "Normal", got, code, want, wantCode)
		if code == api.OK && grid.Check(got) != api.OK {
			t.Error(g, grid.Check(got))
		}
	}
}

// 14.2: of noughts alone there is nothing to be made whole, and the grid itself is told.
func TestNormalNone(t *testing.T) {
	for _, s := range sides {
		g := filled(s[0], s[1], 0)
		got, code := grid.Normal(g)
		is(t, "Normal", got, code, g, api.ErrNone)
	}
}

// plainSpread is 14.3's Spread of a q that may be, word by word: both ways by the steps from a place to that behind it.
func plainSpread(g api.Grid, q int64) api.Grid {
	for _, d := range [][2]int{{1, 0}, {0, 1}} {
		out := copied(g)
		for i, self := range g.P {
			x, y := i%g.W, i/g.W
			ahead, ok := cell(g, x-d[0], y-d[1])
			if !ok {
				ahead = self
			}
			behind, ok := cell(g, x+d[0], y+d[1])
			if !ok {
				behind = self
			}
			all := new(big.Int).Add(times(q, ahead), times(256-2*q, self))
			all.Add(all, times(q, behind))
			out.P[i] = all.Div(all, big.NewInt(256)).Int64()
		}
		g = out
	}
	return g
}

// 14.3 and the first example: what is spread, told by hand.
func TestSpread(t *testing.T) {
	for _, c := range []struct {
		w, h    int
		q       int64
		p, want []int64
	}{
		{2, 2, 64, []int64{0, 0, 0, whole}, []int64{whole / 16, 3 * whole / 16, 3 * whole / 16, 9 * whole / 16}},
		{3, 1, 64, []int64{0, 256, 0}, []int64{64, 128, 64}},
		{1, 3, 64, []int64{0, 256, 0}, []int64{64, 128, 64}},
		{3, 1, 85, []int64{0, 256, 0}, []int64{85, 86, 85}},
		{3, 1, 85, []int64{256, 0, 0}, []int64{171, 85, 0}},
		{1, 3, 85, []int64{0, 0, 256}, []int64{0, 85, 171}},
		{3, 1, 1, []int64{255, 256, 255}, []int64{255, 255, 255}},
		{3, 3, 64, []int64{0, 0, 0, 0, 4096, 0, 0, 0, 0}, []int64{256, 512, 256, 512, 1024, 512, 256, 512, 256}},
		// 7 and 3 along the row, and of these 4 and 2, 2 and 0 along the columns; were it rounded down but once, 1 would be the last one.
		{2, 2, 85, []int64{11, 0, 0, 0}, []int64{4, 2, 2, 0}},
		{1, 1, 85, []int64{whole}, []int64{whole}},
		{1, 1, 1, []int64{7}, []int64{7}},
	} {
		got, code := grid.Spread(laid(c.w, c.h, c.p...), c.q)
		is(t, "Spread", got, code, laid(c.w, c.h, c.want...), api.OK)
	}
}

// 14.3: what is spread, of grids and numbers of all kinds; by 0 a grid is as it was.
func TestSpreadAll(t *testing.T) {
	for _, g := range grids() {
		for _, q := range []int64{0, 1, 2, 31, 64, 84, 85} {
			got, code := grid.Spread(g, q)
			is(t, "Spread", got, code, plainSpread(g, q), api.OK)
		}
		got, _ := grid.Spread(g, 0)
		is(t, "Spread by 0", got, api.OK, g, api.OK)
	}
	g := steep(5, 4)
	for q := range int64(86) {
		got, code := grid.Spread(g, q)
		is(t, "Spread", got, code, plainSpread(g, q), api.OK)
	}
}

// 14.3: of a line nothing goes to where there is none; of one place nothing goes anywhere.
func TestSpreadLines(t *testing.T) {
	for _, q := range []int64{0, 1, 64, 85} {
		row, _ := grid.Spread(laid(4, 1, 0, 1024, 512, 4096), q)
		column, _ := grid.Spread(laid(1, 4, 0, 1024, 512, 4096), q)
		if !slices.Equal(row.P, column.P) || sum(row.P).Int64() != 5632 {
			t.Error(q, row.P, column.P)
		}
		one, _ := grid.Spread(laid(1, 1, 12345), q)
		if one.P[0] != 12345 {
			t.Error(q, one.P)
		}
	}
}

// 14.3: what Spread refuses, and tells the grid itself.
func TestSpreadRange(t *testing.T) {
	for _, q := range []int64{-1, 86, -85, 128, 256, 1<<32 + 5, -1 << 32, hi, lo, lo + 64} {
		for _, g := range []api.Grid{steep(3, 2), laid(1, 1, whole), filled(64, 64, 5)} {
			got, code := grid.Spread(g, q)
			is(t, "Spread", got, code, g, api.ErrRange)
		}
	}
}

// 14.4: a grid that lies elsewhere.
func TestMove(t *testing.T) {
	for _, g := range grids() {
		for _, d := range [][2]int64{{0, 0}, {1, -1}, {-64, 0}, {0, 4096}, {1 << 40, -1 << 40}} {
			want := copied(g)
			want.X, want.Y = g.X+d[0], g.Y+d[1]
			is(t, "Move", grid.Move(g, d[0], d[1]), api.OK, want, api.OK)
		}
	}
	g := laid(2, 1, 3, 4)
	g.X, g.Y = 0, -1
	want := copied(g)
	want.X, want.Y = hi, hi-1
	is(t, "Move", grid.Move(g, hi, hi), api.OK, want, api.OK)
	want.X, want.Y = lo, lo
	is(t, "Move", grid.Move(g, lo, lo+1), api.OK, want, api.OK)
}

// weights is what 14.4's Weigh tells, as one.
type weights struct {
	g    api.Grid
	z    wide.Int
	most int64
	code api.Code
}

// weigh is Weigh as one.
func weigh(g api.Grid, l []int64) weights {
	out, z, most, code := grid.Weigh(g, l)
	return weights{out, z, most, code}
}

// plainWeigh is 14.4's Weigh, word by word.
func plainWeigh(g api.Grid, l []int64) weights {
	if len(l) != len(g.P) {
		return weights{g: g, code: api.ErrSize}
	}
	all, most := new(big.Int), int64(0)
	for i, x := range l {
		if x < 0 || x > 65536 {
			return weights{g: g, code: api.ErrArg}
		}
		all.Add(all, times(g.P[i], x))
		most = max(most, x)
	}
	if all.Sign() == 0 {
		return weights{g: g, most: most, code: api.ErrNone}
	}
	out := copied(g)
	for i, x := range l {
		out.P[i] = part(times(g.P[i], x), all)
	}
	return weights{out, wide.Of(all.Int64()), most, api.OK}
}

// weighed fails if Weigh does not tell what was asked for.
func weighed(t *testing.T, g api.Grid, l []int64, want weights) {
	t.Helper()
	got := weigh(g, l)
	is(t, "Weigh", got.g, got.code, want.g, want.code)
	if got.z != want.z || got.most != want.most {
		t.Errorf("Weigh of %v by %v: %v, %d; not %v, %d", g, l, got.z, got.most, want.z, want.most)
	}
}

// 14.4: what is weighed, told by hand.
func TestWeigh(t *testing.T) {
	g := laid(2, 2, whole/4, whole/4, whole/4, whole/4)
	for _, c := range []struct {
		l, want []int64
		z, most int64
	}{
		{[]int64{0, 0, 0, 9}, []int64{0, 0, 0, whole}, 9 << 28, 9},
		{[]int64{9, 0, 0, 0}, []int64{whole, 0, 0, 0}, 9 << 28, 9},
		{[]int64{1, 2, 3, 0}, []int64{178956970, 357913941, whole / 2, 0}, 6 << 28, 3},
		{[]int64{1, 1, 1, 0}, []int64{357913941, 357913941, 357913941, 0}, 3 << 28, 1},
		{[]int64{65536, 65536, 65536, 65536}, g.P, 1 << 46, 65536},
		{[]int64{65536, 0, 1, 65535}, []int64{536870912, 0, 8192, 536862720}, 131072 << 28, 65536},
	} {
		weighed(t, g, c.l, weights{laid(2, 2, c.want...), wide.Of(c.z), c.most, api.OK})
	}
	weighed(t, laid(1, 1, 5), []int64{3}, weights{laid(1, 1, whole), wide.Of(15), 3, api.OK})
	weighed(t, laid(2, 1, whole, 0), []int64{1, 65536}, weights{laid(2, 1, whole, 0), wide.Of(whole), 65536, api.OK})
}

// 14.4: what is weighed, of grids and weights of all kinds.
func TestWeighAll(t *testing.T) {
	c := rand.New(rand.NewPCG(14, 4))
	for _, g := range grids() {
		n := len(g.P)
		lists := [][]int64{make([]int64, n), slices.Repeat([]int64{65536}, n), slices.Repeat([]int64{1}, n)}
		last, allButLast, any, few := slices.Clone(lists[1]), make([]int64, n), make([]int64, n), make([]int64, n)
		last[n-1], allButLast[n-1] = 0, 7
		for i := range any {
			any[i], few[i] = c.Int64N(65537), c.Int64N(65537)*c.Int64N(2)
		}
		for _, l := range append(lists, last, allButLast, any, few) {
			want := plainWeigh(g, l)
			weighed(t, g, l, want)
			if want.code == api.OK && grid.Check(weigh(g, l).g) != api.OK {
				t.Error(g, l, grid.Check(weigh(g, l).g))
			}
		}
	}
}

// 14.4: what Weigh refuses; the grid itself is told, and with ErrNone the greatest weight, too.
func TestWeighCodes(t *testing.T) {
	g := laid(2, 2, whole/2, 0, 0, whole/2)
	for _, l := range [][]int64{nil, {}, {1}, {1, 2, 3}, {1, 2, 3, 4, 5}, {-1, 2, 3}, {1, 2, 3, 65537, 5}, {0, 0, 0}, {0, 0, 0, 0, 0}} {
		weighed(t, g, l, weights{g: g, code: api.ErrSize})
	}
	for _, x := range []int64{-1, 65537, hi, lo, 1 << 32, -1 << 32} {
		for i := range 4 {
			for _, rest := range []int64{0, 5, 65536} {
				l := slices.Repeat([]int64{rest}, 4)
				l[i] = x
				weighed(t, g, l, weights{g: g, code: api.ErrArg})
			}
		}
	}
	weighed(t, filled(2, 2, 0), []int64{1, -1, 1, 1}, weights{g: filled(2, 2, 0), code: api.ErrArg})
	// One above and one below might have been a sum that may be.
	weighed(t, g, []int64{65537, 0, 0, -1}, weights{g: g, code: api.ErrArg})
	weighed(t, g, []int64{0, 0, 0, 0}, weights{g: g, code: api.ErrNone})
	weighed(t, g, []int64{0, 12, 65536, 0}, weights{g: g, most: 65536, code: api.ErrNone})
	weighed(t, filled(2, 2, 0), []int64{3, 8, 1, 2}, weights{g: filled(2, 2, 0), most: 8, code: api.ErrNone})
	weighed(t, laid(1, 1, 0), []int64{65536}, weights{g: laid(1, 1, 0), most: 65536, code: api.ErrNone})
}

// plainCut is 14.5's Cut of numbers that may be, word by word.
func plainCut(g api.Grid, x, y, w, h int) api.Grid {
	out := api.Grid{W: w, H: h, X: g.X + int64(x)*g.Step, Y: g.Y + int64(y)*g.Step, Step: g.Step}
	for i := range w * h {
		p, _ := cell(g, x+i%w, y+i/w)
		out.P = append(out.P, p)
	}
	return out
}

// 14.5: what is cut, told by hand.
func TestCut(t *testing.T) {
	g := laid(3, 2, 1, 2, 3, 4, 5, 6)
	for _, c := range []struct {
		x, y, w, h int
		p          []int64
	}{
		{0, 0, 3, 2, []int64{1, 2, 3, 4, 5, 6}},
		{1, 0, 2, 2, []int64{2, 3, 5, 6}},
		{2, 1, 1, 1, []int64{6}},
		{-1, 0, 2, 2, []int64{0, 1, 0, 4}},
		{2, 0, 2, 2, []int64{3, 0, 6, 0}},
		{0, -1, 3, 2, []int64{0, 0, 0, 1, 2, 3}},
		{0, 1, 3, 2, []int64{4, 5, 6, 0, 0, 0}},
		{-1, -1, 5, 4, []int64{0, 0, 0, 0, 0, 0, 1, 2, 3, 0, 0, 4, 5, 6, 0, 0, 0, 0, 0, 0}},
		{3, 0, 2, 2, []int64{0, 0, 0, 0}},
		{0, 2, 2, 1, []int64{0, 0}},
		{-2, 0, 2, 1, []int64{0, 0}},
		{64, -64, 1, 1, []int64{0}},
		{-64, 64, 1, 2, []int64{0, 0}},
	} {
		got, code := grid.Cut(g, c.x, c.y, c.w, c.h)
		want := api.Grid{W: c.w, H: c.h, X: 1000 + 64*int64(c.x), Y: -2000 + 64*int64(c.y), Step: 64, P: c.p}
		is(t, "Cut", got, code, want, api.OK)
	}
}

// 14.5: what is cut, of grids of all kinds, from within, over each end, and from beyond.
func TestCutAll(t *testing.T) {
	for _, g := range grids() {
		for _, x := range []int{-64, -63, -3, -1, 0, 1, g.W / 2, g.W - 1, g.W, 63, 64} {
			for _, s := range [][2]int{{1, 1}, {g.W, g.H}, {2, 3}, {64, 64}} {
				got, code := grid.Cut(g, x, 1, s[0], s[1])
				is(t, "Cut", got, code, plainCut(g, x, 1, s[0], s[1]), api.OK)
				got, code = grid.Cut(g, -1, x, s[0], s[1])
				is(t, "Cut", got, code, plainCut(g, -1, x, s[0], s[1]), api.OK)
			}
		}
		got, code := grid.Cut(g, 0, 0, g.W, g.H)
		is(t, "Cut", got, code, g, api.OK)
	}
}

// 14.5: what Cut refuses, and tells the grid itself.
func TestCutRange(t *testing.T) {
	g := steep(5, 4)
	no := func(x, y, w, h int) {
		t.Helper()
		got, code := grid.Cut(g, x, y, w, h)
		is(t, "Cut", got, code, g, api.ErrRange)
	}
	for _, s := range wrongSides {
		no(0, 0, s, 2)
		no(0, 0, 2, s)
		no(0, 0, s, s)
		no(65, 0, s, 2)
	}
	for _, x := range []int{65, -65, 66, 128, 1<<32 + 1, -1 << 32, math.MaxInt, math.MinInt} {
		no(x, 0, 2, 2)
		no(0, x, 2, 2)
		no(x, x, 64, 1)
	}
}

// plainSplit is 14.6's Split of a grid that can be, word by word: of each place the four, in a row of their own.
func plainSplit(g api.Grid) api.Grid {
	out := api.Grid{W: 2 * g.W, H: 2 * g.H, X: g.X - g.Step/4, Y: g.Y - g.Step/4, Step: g.Step / 2, P: make([]int64, 4*g.W*g.H)}
	for i, x := range g.P {
		first := 2*(i/g.W)*out.W + 2*(i%g.W)
		for _, k := range []int{first, first + 1, first + out.W, first + out.W + 1} {
			out.P[k] = x / 4
		}
	}
	return out
}

// 14.6: what is split.
func TestSplit(t *testing.T) {
	got, code := grid.Split(laid(2, 1, 9, 4))
	want := api.Grid{W: 4, H: 2, X: 984, Y: -2016, Step: 32, P: []int64{2, 2, 1, 1, 2, 2, 1, 1}}
	is(t, "Split", got, code, want, api.OK)
	for _, g := range grids() {
		if g.W > 32 || g.H > 32 {
			continue
		}
		for _, step := range []int64{32, 36, 40, 64, 100, 2048, 4092, 4096} {
			g.Step = step
			got, code := grid.Split(g)
			is(t, "Split", got, code, plainSplit(g), api.OK)
		}
	}
}

// 14.6: what can't be split: too many columns or rows, too small a Step, or one that has no quarter.
func TestSplitLimit(t *testing.T) {
	no := func(w, h int, step int64) {
		t.Helper()
		g := steep(w, h)
		g.Step = step
		got, code := grid.Split(g)
		is(t, "Split", got, code, g, api.ErrLimit)
	}
	for _, s := range [][2]int{{33, 1}, {1, 33}, {33, 32}, {32, 33}, {64, 64}, {64, 1}, {1, 64}, {34, 34}} {
		no(s[0], s[1], 64)
	}
	for _, step := range []int64{16, 17, 20, 28, 30, 31, 33, 34, 35, 37, 38, 39, 4095, 4094} {
		no(2, 2, step)
		no(32, 32, step)
	}
}

// plainJoin is 14.6's Join of a grid that can be, word by word.
func plainJoin(g api.Grid) api.Grid {
	out := api.Grid{W: g.W / 2, H: g.H / 2, X: g.X + g.Step/2, Y: g.Y + g.Step/2, Step: 2 * g.Step}
	for i := range g.W * g.H / 4 {
		x, y := i%out.W*2, i/out.W*2
		a, _ := cell(g, x, y)
		b, _ := cell(g, x+1, y)
		c, _ := cell(g, x, y+1)
		d, _ := cell(g, x+1, y+1)
		out.P = append(out.P, a+b+c+d)
	}
	return out
}

// 14.6: what is joined; of an odd Step half is told without a rest.
func TestJoin(t *testing.T) {
	got, code := grid.Join(laid(4, 2, 1, 2, 3, 4, 5, 6, 7, 8))
	want := api.Grid{W: 2, H: 1, X: 1032, Y: -1968, Step: 128, P: []int64{14, 22}}
	is(t, "Join", got, code, want, api.OK)
	for _, g := range grids() {
		if g.W%2 != 0 || g.H%2 != 0 {
			continue
		}
		for _, step := range []int64{16, 17, 18, 64, 2047, 2048} {
			g.Step = step
			got, code := grid.Join(g)
			is(t, "Join", got, code, plainJoin(g), api.OK)
			if grid.Sum(got) != grid.Sum(g) {
				t.Error(g, got)
			}
		}
	}
}

// 14.6: what can't be joined: odd columns, odd rows, or too great a Step.
func TestJoinLimit(t *testing.T) {
	no := func(w, h int, step int64) {
		t.Helper()
		g := steep(w, h)
		g.Step = step
		got, code := grid.Join(g)
		is(t, "Join", got, code, g, api.ErrLimit)
	}
	for _, s := range [][2]int{{1, 1}, {1, 2}, {2, 1}, {3, 2}, {2, 3}, {63, 64}, {64, 63}, {63, 63}} {
		no(s[0], s[1], 64)
	}
	for _, step := range []int64{2049, 2050, 4095, 4096} {
		no(2, 2, step)
		no(64, 64, step)
	}
}

// 14.6: where places lie, and where there is none.
func TestAt(t *testing.T) {
	for _, g := range grids() {
		for i := range g.P {
			s, ok := grid.At(g, i)
			if want := (api.Spot{X: g.X + int64(i%g.W)*g.Step, Y: g.Y + int64(i/g.W)*g.Step}); !ok || s != want {
				t.Error(g, i, s, ok)
			}
		}
		for _, i := range []int{-1, -2, -g.W, len(g.P), len(g.P) + 1, 1 << 32, -1 << 32, math.MaxInt, math.MinInt} {
			if s, ok := grid.At(g, i); ok || s != (api.Spot{}) {
				t.Error(g, i, s, ok)
			}
		}
	}
	g := laid(3, 2, 0, 0, 0, 0, 0, 0)
	if s, ok := grid.At(g, 4); !ok || s != (api.Spot{X: 1064, Y: -1936}) {
		t.Error(s, ok)
	}
}

// 14.6: the four places of a split one lie a quarter of the Step around it, the place of four that were joined in their middle.
func TestAtSplitJoin(t *testing.T) {
	g := laid(4, 2, 4, 8, 12, 16, 20, 24, 28, 32)
	middle := func(fine, coarse api.Grid) {
		t.Helper()
		for i := range coarse.P {
			first := 2*(i/coarse.W)*fine.W + 2*(i%coarse.W)
			want, _ := grid.At(coarse, i)
			aside := fine.Step / 2
			for k, d := range map[int]api.Spot{0: {X: -aside, Y: -aside}, 1: {X: aside, Y: -aside}, fine.W: {X: -aside, Y: aside}, fine.W + 1: {X: aside, Y: aside}} {
				if s, ok := grid.At(fine, first+k); !ok || s != (api.Spot{X: want.X + d.X, Y: want.Y + d.Y}) {
					t.Error(i, k, s, want)
				}
			}
		}
	}
	fine, _ := grid.Split(g)
	middle(fine, g)
	coarse, _ := grid.Join(g)
	middle(g, coarse)
}

// 14.7: split and joined a grid is as it was, but for less than four of each place.
func TestSplitAndJoined(t *testing.T) {
	for _, g := range grids() {
		if g.W > 32 || g.H > 32 {
			continue
		}
		for _, step := range []int64{32, 36, 64, 2048, 4096} {
			g.Step = step
			fine, code := grid.Split(g)
			back, code2 := grid.Join(fine)
			if code != api.OK || code2 != api.OK {
				t.Fatal(g, code, code2)
			}
			for i, x := range g.P {
				if back.P[i] > x || back.P[i] <= x-4 {
					t.Error(g, i, back.P[i])
				}
			}
			back.P = g.P
			is(t, "Join of Split", back, api.OK, g, api.OK)
		}
	}
	exact := laid(2, 2, 4, 8, 0, whole-12)
	fine, _ := grid.Split(exact)
	back, _ := grid.Join(fine)
	is(t, "Join of Split", back, api.OK, exact, api.OK)
}

// deeds is all that can be done to a grid, with and without a code, by names.
var deeds = map[string]func(g api.Grid) (api.Grid, api.Code){
	"Normal":        grid.Normal,
	"Normal, none":  func(g api.Grid) (api.Grid, api.Code) { clear(g.P); return grid.Normal(g) },
	"Spread":        func(g api.Grid) (api.Grid, api.Code) { return grid.Spread(g, 64) },
	"Spread by 0":   func(g api.Grid) (api.Grid, api.Code) { return grid.Spread(g, 0) },
	"Spread by 86":  func(g api.Grid) (api.Grid, api.Code) { return grid.Spread(g, 86) },
	"Move":          func(g api.Grid) (api.Grid, api.Code) { return grid.Move(g, 3, 4), api.OK },
	"Move by 0":     func(g api.Grid) (api.Grid, api.Code) { return grid.Move(g, 0, 0), api.OK },
	"Weigh":         func(g api.Grid) (api.Grid, api.Code) { return weighAll(g, 1) },
	"Weigh by -1":   func(g api.Grid) (api.Grid, api.Code) { return weighAll(g, -1) },
	"Weigh by 0":    func(g api.Grid) (api.Grid, api.Code) { return weighAll(g, 0) },
	"Weigh by none": func(g api.Grid) (api.Grid, api.Code) { r := weigh(g, nil); return r.g, r.code },
	"Cut":           func(g api.Grid) (api.Grid, api.Code) { return grid.Cut(g, 0, 0, g.W, g.H) },
	"Cut from 65":   func(g api.Grid) (api.Grid, api.Code) { return grid.Cut(g, 65, 0, g.W, g.H) },
	"Split":         grid.Split,
	"Split of 16":   func(g api.Grid) (api.Grid, api.Code) { g.Step = 16; return grid.Split(g) },
	"Join":          grid.Join,
	"Join of 2049":  func(g api.Grid) (api.Grid, api.Code) { g.Step = 2049; return grid.Join(g) },
}

// weighAll is Weigh by one weight for all places.
func weighAll(g api.Grid, weight int64) (api.Grid, api.Code) {
	r := weigh(g, slices.Repeat([]int64{weight}, len(g.P)))
	return r.g, r.code
}

// Of all calls: what is told shares nothing with the grid that was handed in, which is not changed, nor is what lies behind its places.
func TestNothingShared(t *testing.T) {
	for name, do := range deeds {
		behind := slices.Concat(steep(4, 4).P, slices.Repeat([]int64{-7}, 64))
		g := laid(4, 4, behind[:16]...)
		if name == "Normal, none" {
			clear(g.P)
		}
		was := slices.Clone(behind)
		got, _ := do(g)
		if !slices.Equal(behind, was) {
			t.Error(name, "changed what was handed in:", behind)
		}
		told := copied(got)
		got.P = append(got.P, 5, 5, 5)
		for i := range got.P[:cap(got.P)] {
			got.P[:cap(got.P)][i] = -9
		}
		if !slices.Equal(behind, was) {
			t.Error(name, "told memory that was handed in")
		}
		again, _ := do(g)
		first := copied(again)
		for i := range behind {
			behind[i] = -11
		}
		if !same(first, told) || !same(again, first) {
			t.Error(name, "kept memory that was handed in:", again, told)
		}
	}
}

// Of Weigh: the weights are not changed, nor is what is told made of them.
func TestWeightsNotShared(t *testing.T) {
	g := laid(2, 2, whole/4, whole/4, whole/4, whole/4)
	behind := []int64{1, 2, 3, 4, -1, -1}
	got := weigh(g, behind[:4])
	if !slices.Equal(behind, []int64{1, 2, 3, 4, -1, -1}) || got.code != api.OK {
		t.Error(behind, got)
	}
	told := copied(got.g)
	for i := range behind {
		behind[i] = 99
	}
	is(t, "Weigh", got.g, api.OK, told, api.OK)
}

// Of Even: two that are alike share nothing.
func TestEvenNotShared(t *testing.T) {
	a, _ := grid.Even(8, 8, 0, 0, 64)
	b, _ := grid.Even(8, 8, 0, 0, 64)
	clear(a.P)
	if b.P[0] != whole/64 {
		t.Error(b.P)
	}
}

// wrongGrids is grids of which nothing is promised but that Check refuses them.
func wrongGrids() []api.Grid {
	all := []api.Grid{{}, {P: []int64{1, 2}}, laid(2, 2), laid(2, 2, 1, 2, 3), laid(2, 2, 1, 2, 3, 4, 5), laid(2, 2, lo, lo, hi, hi), laid(2, 2, -1, 1, 0, 0), laid(64, 64, 1)}
	for _, s := range wrongSides {
		all = append(all, laid(s, 2, 1, 2), laid(2, s, 1, 2), laid(s, s, 1), laid(s, s), laid(s, 1, 1, 2, 3, 4))
	}
	for _, step := range wrongSteps {
		all = append(all, api.Grid{W: 2, H: 2, X: hi, Y: lo, Step: step, P: []int64{1, 2, 3, 4}})
	}
	return all
}

// P0: whatever is handed in, all calls end.
func TestWrongGridsEnd(t *testing.T) {
	for _, g := range wrongGrids() {
		was := copied(g)
		if code := grid.Check(g); code == api.OK {
			t.Error(g, code)
		}
		for name, do := range deeds {
			if name != "Normal, none" {
				do(g)
			}
		}
		for _, i := range []int{0, 1, 3, -1, math.MaxInt, math.MinInt} {
			grid.At(g, i)
		}
		weigh(g, []int64{1, 2, 3, 4})
		grid.Cut(g, -64, 64, 64, 64)
		grid.Len(g)
		grid.Sum(g)
		if !same(g, was) {
			t.Error("changed", g, was)
		}
	}
}

// The chapter's example, and one after another.
func TestExample(t *testing.T) {
	g, _ := grid.Even(2, 2, 0, 0, 64)
	r := weigh(g, []int64{0, 0, 0, 1})
	s, code := grid.Spread(r.g, 64)
	if code != api.OK || s.P[0] != whole/16 || s.P[3] != 9*whole/16 {
		t.Error(s, code)
	}
}
