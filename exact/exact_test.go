package exact_test

import (
	"math"
	"math/big"
	"math/rand/v2"
	"slices"
	"testing"

	"theodolite/api"
	"theodolite/exact"
	"theodolite/nat"
)

const (
	whole = 1 << 30
	one   = 1 << 40
	hi    = math.MaxInt64
	lo    = math.MinInt64
)

// grid is a grid of these sides, its places believed as told.
func grid(w, h int, p ...int64) api.Grid {
	return api.Grid{W: w, H: h, X: 1000, Y: -2000, Step: 64, P: p}
}

// of is a filter of these sides, its places believed as told.
func of(w, h int, u ...uint64) exact.Filter {
	f := exact.Filter{W: w, H: h}
	for _, x := range u {
		f.U = append(f.U, nat.Of(x))
	}
	return f
}

// plain is a filter in numbers of another kind, by which the chapter's words are gone after.
type plain struct {
	w, h int
	u    []*big.Int
}

// number is what a number of parts stands for.
func number(a nat.Nat) *big.Int {
	x := new(big.Int)
	for _, part := range slices.Backward(a.Parts()) {
		x.Add(x.Lsh(x, 32), big.NewInt(int64(part)))
	}
	return x
}

// plainOf is what a filter stands for.
func plainOf(f exact.Filter) plain {
	p := plain{w: f.W, h: f.H}
	for _, u := range f.U {
		p.u = append(p.u, number(u))
	}
	return p
}

// numbers is numbers of another kind.
func numbers(l ...int64) []*big.Int {
	var all []*big.Int
	for _, x := range l {
		all = append(all, big.NewInt(x))
	}
	return all
}

// place is the number in a column and a row; false: there is no such place.
func (p plain) place(x, y int) (*big.Int, bool) {
	if x < 0 || y < 0 || x >= p.w || y >= p.h {
		return new(big.Int), false
	}
	return p.u[p.w*y+x], true
}

// sum is all numbers together.
func sum(l []*big.Int) *big.Int {
	all := new(big.Int)
	for _, x := range l {
		all.Add(all, x)
	}
	return all
}

// times is a product.
func times(a *big.Int, b int64) *big.Int { return new(big.Int).Mul(a, big.NewInt(b)) }

// plainLine is one line of 17.2's Spread, word by word.
func plainLine(l []*big.Int, q int64) []*big.Int {
	var out []*big.Int
	for i, itself := range l {
		ahead, behind := itself, itself
		if i > 0 {
			ahead = l[i-1]
		}
		if i < len(l)-1 {
			behind = l[i+1]
		}
		out = append(out, sum([]*big.Int{times(ahead, q), times(itself, 256-2*q), times(behind, q)}))
	}
	return out
}

// plainSpread is 17.2's Spread, row by row, then column by column.
func plainSpread(p plain, q int64) plain {
	rows := plain{w: p.w, h: p.h}
	for y := range p.h {
		rows.u = append(rows.u, plainLine(p.u[y*p.w:(y+1)*p.w], q)...)
	}
	out := plain{w: p.w, h: p.h, u: make([]*big.Int, len(p.u))}
	for x := range p.w {
		var column []*big.Int
		for y := range p.h {
			column = append(column, rows.u[y*p.w+x])
		}
		for y, u := range plainLine(column, q) {
			out.u[y*p.w+x] = u
		}
	}
	return out
}

// plainWeigh is 17.2's Weigh, word by word.
func plainWeigh(p plain, l []int64) plain {
	out := plain{w: p.w, h: p.h}
	for i, u := range p.u {
		weight := int64(0)
		if i < len(l) && l[i] > 0 {
			weight = l[i]
		}
		out.u = append(out.u, times(u, weight))
	}
	return out
}

// plainCut is 17.3's Cut, word by word.
func plainCut(p plain, x, y, w, h int) plain {
	out := plain{w: w, h: h}
	for row := y; row < y+h; row++ {
		for column := x; column < x+w; column++ {
			u, _ := p.place(column, row)
			out.u = append(out.u, u)
		}
	}
	return out
}

// plainSplit is 17.3's Split: each place is written to the four that come of it.
func plainSplit(p plain) plain {
	out := plain{w: 2 * p.w, h: 2 * p.h, u: make([]*big.Int, 4*len(p.u))}
	for i, u := range p.u {
		x, y := i%p.w*2, i/p.w*2
		out.u[y*out.w+x], out.u[y*out.w+x+1], out.u[(y+1)*out.w+x], out.u[(y+1)*out.w+x+1] = u, u, u, u
	}
	return out
}

// plainJoin is 17.3's Join: each place is added to the one that it goes into.
func plainJoin(p plain) plain {
	out := plain{w: p.w / 2, h: p.h / 2, u: numbers(make([]int64, len(p.u)/4)...)}
	for i, u := range p.u {
		to := out.u[i/p.w/2*out.w+i%p.w/2]
		to.Add(to, u)
	}
	return out
}

// plainLean is 17.3's Lean: all are halved as long as all can be.
func plainLean(p plain) plain {
	out := p
	for sum(out.u).Sign() != 0 && !slices.ContainsFunc(out.u, func(u *big.Int) bool { return u.Bit(0) == 1 }) {
		half := plain{w: p.w, h: p.h}
		for _, u := range out.u {
			half.u = append(half.u, new(big.Int).Rsh(u, 1))
		}
		out = half
	}
	return out
}

// plainApart is 17.4's distance of two that have as many places, and of which something is believed.
func plainApart(p []int64, f plain) *big.Rat {
	all := new(big.Rat)
	places := numbers(p...)
	sumOfGrid, sumOfFilter := sum(places), sum(f.u)
	for i, x := range places {
		differ := new(big.Rat).Sub(new(big.Rat).SetFrac(x, sumOfGrid), new(big.Rat).SetFrac(f.u[i], sumOfFilter))
		all.Add(all, differ.Abs(differ))
	}
	return all.Mul(all, big.NewRat(1, 2))
}

// is holds a filter against what it should be, number by number.
func is(t *testing.T, what string, got exact.Filter, want plain) {
	t.Helper()
	if got.W != want.w || got.H != want.h || len(got.U) != len(want.u) {
		t.Fatalf("%s: %d by %d, %d places, not %d by %d, %d", what, got.W, got.H, len(got.U), want.w, want.h, len(want.u))
	}
	for i, u := range got.U {
		if number(u).Cmp(want.u[i]) != 0 {
			t.Fatalf("%s: place %d: %s, not %v", what, i, u.Text(), want.u[i])
		}
	}
}

// hasNumbers holds a filter against numbers that are told.
func hasNumbers(t *testing.T, what string, got exact.Filter, w, h int, want ...int64) {
	t.Helper()
	is(t, what, got, plain{w: w, h: h, u: numbers(want...)})
}

// areOne tells whether two filters are one, by 17.1's words.
func areOne(a, b exact.Filter) bool {
	if a.W != b.W || a.H != b.H || len(a.U) != len(b.U) {
		return false
	}
	for i := range a.U {
		if nat.Cmp(nat.Mul(a.U[i], b.Sum()), nat.Mul(b.U[i], a.Sum())) != 0 {
			return false
		}
	}
	return true
}

// anyNumber is a number of few bits, or of many, or 0.
func anyNumber(c *rand.Rand) nat.Nat {
	l := make([]uint32, c.IntN(8))
	for i := range l {
		l[i] = c.Uint32() >> c.IntN(32)
	}
	return nat.From(l)
}

// anyFilter is a filter that looks like any.
func anyFilter(c *rand.Rand, w, h int) exact.Filter {
	f := exact.Filter{W: w, H: h}
	for range w * h {
		f.U = append(f.U, anyNumber(c))
	}
	return f
}

// anyPlaces is how much so many places are believed, the first one at least a little.
func anyPlaces(c *rand.Rand, n int) []int64 {
	p := make([]int64, n)
	for i := range p {
		p[i] = c.Int64N(whole/int64(n)) >> c.IntN(30)
	}
	p[0]++
	return p
}

// sides is pairs of sides: the least, lines, and others.
var sides = [][2]int{{1, 1}, {2, 1}, {1, 2}, {2, 2}, {3, 3}, {5, 4}, {4, 6}, {1, 7}, {7, 1}, {8, 2}, {2, 8}, {16, 16}}

// filters is filters of all of these sides.
func filters() []exact.Filter {
	c := rand.New(rand.NewPCG(17, 1))
	var all []exact.Filter
	for _, s := range sides {
		for range 5 {
			all = append(all, anyFilter(c, s[0], s[1]))
		}
		all = append(all, of(s[0], s[1], make([]uint64, s[0]*s[1])...))
		all = append(all, of(s[0], s[1], slices.Repeat([]uint64{math.MaxUint64}, s[0]*s[1])...))
	}
	return all
}

// 17.1: From.
func TestFrom(t *testing.T) {
	hasNumbers(t, "one place", exact.From(grid(1, 1, 7)), 1, 1, 7)
	hasNumbers(t, "all that there is", exact.From(grid(1, 1, whole)), 1, 1, whole)
	hasNumbers(t, "columns and rows", exact.From(grid(3, 2, 1, 2, 3, 4, 5, whole)), 3, 2, 1, 2, 3, 4, 5, whole)
	hasNumbers(t, "0 alone", exact.From(grid(2, 2, 0, 0, 0, 0)), 2, 2, 0, 0, 0, 0)
	hasNumbers(t, "below 0", exact.From(grid(4, 2, -1, 5, lo, 6, math.MinInt32, lo+7, -1<<32+3, 1)), 4, 2, 0, 5, 0, 6, 0, 0, 0, 1)
	hasNumbers(t, "more than all", exact.From(grid(3, 1, hi, 1<<32, 1<<40+9)), 3, 1, hi, 1<<32, 1<<40+9)
	hasNumbers(t, "none", exact.From(api.Grid{}), 0, 0)
	hasNumbers(t, "wherever it lies", exact.From(api.Grid{W: 1, H: 2, X: lo, Y: hi, Step: -5, P: []int64{3, 4}}), 1, 2, 3, 4)
	c := rand.New(rand.NewPCG(17, 2))
	for _, s := range sides {
		p := anyPlaces(c, s[0]*s[1])
		hasNumbers(t, "any", exact.From(grid(s[0], s[1], p...)), s[0], s[1], p...)
	}
}

// 17.1: Sum.
func TestSum(t *testing.T) {
	for _, c := range []struct {
		f    exact.Filter
		want string
	}{
		{exact.Filter{}, "0"},
		{of(1, 1, 5), "5"},
		{of(1, 1, 0), "0"},
		{of(2, 2, 0, 0, 0, 0), "0"},
		{of(3, 1, 1, 2, 4), "7"},
		{of(1, 2, whole, 1), "1073741825"},
		{of(2, 1, math.MaxUint64, math.MaxUint64), "36893488147419103230"},
		{of(1, 2, math.MaxUint64, 1), "18446744073709551616"},
		{exact.From(grid(2, 1, hi, hi)), "18446744073709551614"},
		{exact.From(grid(3, 1, -5, 9, lo)), "9"},
	} {
		if got := c.f.Sum().Text(); got != c.want {
			t.Error(plainOf(c.f), got)
		}
	}
	for _, f := range filters() {
		if got := number(f.Sum()); got.Cmp(sum(plainOf(f).u)) != 0 {
			t.Error(plainOf(f), got)
		}
	}
}

// 17.1: filters that are one have all in common that is promised of them.
func TestOne(t *testing.T) {
	c := rand.New(rand.NewPCG(17, 3))
	for _, f := range filters() {
		more := f
		more.U = nil
		by := nat.Add(anyNumber(c), nat.Of(1))
		for _, u := range f.U {
			more.U = append(more.U, nat.Mul(u, by))
		}
		l := anyPlaces(c, len(f.U))
		if !areOne(f, more) || !areOne(f.Spread(60), more.Spread(60)) || !areOne(f.Weigh(l), more.Weigh(l)) || !areOne(f.Lean(), more.Lean()) {
			t.Error(plainOf(f), "by", by.Text())
		}
		if !areOne(f.Cut(-1, 0, 3, 3), more.Cut(-1, 0, 3, 3)) || !areOne(f.Split(), more.Split()) {
			t.Error(plainOf(f), "by", by.Text())
		}
		g := grid(f.W, f.H, l...)
		for _, b := range []int64{0, 1 << 36, 1 << 38, 1 << 39, one} {
			if exact.Over(g, f, b) != exact.Over(g, more, b) {
				t.Error(plainOf(f), "by", by.Text(), "over", b)
			}
		}
	}
}

// 17.2: Spread of few places.
func TestSpread(t *testing.T) {
	hasNumbers(t, "by 0", of(2, 2, 1, 2, 3, 4).Spread(0), 2, 2, 65536, 2*65536, 3*65536, 4*65536)
	hasNumbers(t, "of one place by 0", of(1, 1, 5).Spread(0), 1, 1, 5*65536)
	hasNumbers(t, "of one place by 1", of(1, 1, 5).Spread(1), 1, 1, 5*65536)
	hasNumbers(t, "of one place by 85", of(1, 1, 5).Spread(85), 1, 1, 5*65536)
	hasNumbers(t, "one row by 1", of(3, 1, 1, 0, 2).Spread(1), 3, 1, 255*256, 3*256, 510*256)
	hasNumbers(t, "one row by 85", of(3, 1, 1, 0, 2).Spread(85), 3, 1, 171*256, 255*256, 342*256)
	hasNumbers(t, "one column by 1", of(1, 3, 1, 0, 2).Spread(1), 1, 3, 255*256, 3*256, 510*256)
	hasNumbers(t, "one column by 85", of(1, 3, 1, 0, 2).Spread(85), 1, 3, 171*256, 255*256, 342*256)
	hasNumbers(t, "a place within", of(3, 1, 0, 1, 0).Spread(85), 3, 1, 85*256, 86*256, 85*256)
	hasNumbers(t, "no further than beside", of(5, 1, 1, 0, 0, 0, 0).Spread(64), 5, 1, 192*256, 64*256, 0, 0, 0)
	hasNumbers(t, "2 by 2", of(2, 2, 0, 0, 0, 1).Spread(64), 2, 2, 64*64, 64*192, 64*192, 192*192)
	hasNumbers(t, "2 by 2, by 85", of(2, 2, 1, 0, 0, 0).Spread(85), 2, 2, 171*171, 171*85, 171*85, 85*85)
	hasNumbers(t, "3 by 3", of(3, 3, 0, 0, 0, 0, 1, 0, 0, 0, 0).Spread(85), 3, 3, 7225, 7310, 7225, 7310, 7396, 7310, 7225, 7310, 7225)
	hasNumbers(t, "3 by 2", of(3, 2, 1, 0, 0, 0, 0, 0).Spread(10), 3, 2, 246*246, 10*246, 0, 246*10, 100, 0)
	hasNumbers(t, "all 0", of(2, 1, 0, 0).Spread(85), 2, 1, 0, 0)
	hasNumbers(t, "twice", of(2, 1, 1, 0).Spread(64).Spread(64), 2, 1, 65536*(192*192+64*64), 65536*2*64*192)
	hasNumbers(t, "none", exact.Filter{}.Spread(85), 0, 0)
}

// 17.2: Spread, word by word; nothing gets lost, each time.
func TestSpreadAny(t *testing.T) {
	for _, f := range filters() {
		for _, q := range []uint64{0, 1, 2, 3, 40, 64, 84, 85} {
			got, want := f.Spread(q), plainSpread(plainOf(f), int64(q))
			is(t, "Spread", got, want)
			is(t, "Spread twice", got.Spread(85-q), plainSpread(want, int64(85-q)))
			if nat.Cmp(got.Sum(), f.Sum().Times(65536)) != 0 {
				t.Error("by", q, "something got lost:", f.Sum().Text(), got.Sum().Text())
			}
		}
		if !areOne(f, f.Spread(0)) {
			t.Error("by 0 it is another one:", plainOf(f))
		}
	}
}

// 17.2: Weigh.
func TestWeigh(t *testing.T) {
	f := of(2, 2, 1, 2, 3, 4)
	hasNumbers(t, "by 0", f.Weigh([]int64{0, 0, 0, 0}), 2, 2, 0, 0, 0, 0)
	hasNumbers(t, "by 1", f.Weigh([]int64{1, 1, 1, 1}), 2, 2, 1, 2, 3, 4)
	hasNumbers(t, "by 2^16", f.Weigh([]int64{65536, 65536, 65536, 65536}), 2, 2, 65536, 2*65536, 3*65536, 4*65536)
	hasNumbers(t, "each by its own", f.Weigh([]int64{7, 0, 65536, 5}), 2, 2, 7, 0, 3*65536, 20)
	hasNumbers(t, "a shorter list", f.Weigh([]int64{5, 6, 7}), 2, 2, 5, 12, 21, 0)
	hasNumbers(t, "a list of one", f.Weigh([]int64{5}), 2, 2, 5, 0, 0, 0)
	hasNumbers(t, "no list", f.Weigh(nil), 2, 2, 0, 0, 0, 0)
	hasNumbers(t, "an empty list", f.Weigh([]int64{}), 2, 2, 0, 0, 0, 0)
	hasNumbers(t, "a longer list", f.Weigh([]int64{5, 6, 7, 8, 9, hi, lo}), 2, 2, 5, 12, 21, 32)
	hasNumbers(t, "below 0", f.Weigh([]int64{-1, 6, lo, -1<<32 + 5}), 2, 2, 0, 12, 0, 0)
	hasNumbers(t, "behind a list's length", f.Weigh([]int64{5, 6, 7, 8}[:2]), 2, 2, 5, 12, 0, 0)
	hasNumbers(t, "of none", exact.Filter{}.Weigh([]int64{1}), 0, 0)
	great := of(2, 1, 1, math.MaxUint64).Weigh([]int64{hi, hi})
	if great.U[0].Text() != "9223372036854775807" || great.U[1].Text() != "170141183460469231704017187605319778305" {
		t.Error("by the greatest:", great.U[0].Text(), great.U[1].Text())
	}
	hasNumbers(t, "beyond 32 bits", of(2, 1, 1, 3).Weigh([]int64{1 << 32, 1<<32 + 1}), 2, 1, 1<<32, 3<<32+3)
}

// 17.2: Weigh, word by word.
func TestWeighAny(t *testing.T) {
	c := rand.New(rand.NewPCG(17, 4))
	for _, f := range filters() {
		for range 4 {
			l := make([]int64, c.IntN(len(f.U)+3))
			for i := range l {
				l[i] = (c.Int64() - 1<<60) >> c.IntN(64)
			}
			is(t, "Weigh", f.Weigh(l), plainWeigh(plainOf(f), l))
		}
	}
}

// 17.3: Cut.
func TestCut(t *testing.T) {
	f := of(3, 2, 1, 2, 3, 4, 5, 6)
	hasNumbers(t, "all", f.Cut(0, 0, 3, 2), 3, 2, 1, 2, 3, 4, 5, 6)
	hasNumbers(t, "the first one", f.Cut(0, 0, 1, 1), 1, 1, 1)
	hasNumbers(t, "the last one", f.Cut(2, 1, 1, 1), 1, 1, 6)
	hasNumbers(t, "one within", f.Cut(1, 0, 1, 1), 1, 1, 2)
	hasNumbers(t, "a row", f.Cut(0, 1, 3, 1), 3, 1, 4, 5, 6)
	hasNumbers(t, "a column", f.Cut(1, 0, 1, 2), 1, 2, 2, 5)
	hasNumbers(t, "beyond the first column", f.Cut(-1, 0, 2, 2), 2, 2, 0, 1, 0, 4)
	hasNumbers(t, "beyond the last column", f.Cut(2, 0, 2, 2), 2, 2, 3, 0, 6, 0)
	hasNumbers(t, "beyond the first row", f.Cut(0, -1, 3, 2), 3, 2, 0, 0, 0, 1, 2, 3)
	hasNumbers(t, "beyond the last row", f.Cut(0, 1, 3, 2), 3, 2, 4, 5, 6, 0, 0, 0)
	hasNumbers(t, "beyond all", f.Cut(-1, -1, 5, 4), 5, 4, 0, 0, 0, 0, 0, 0, 1, 2, 3, 0, 0, 4, 5, 6, 0, 0, 0, 0, 0, 0)
	hasNumbers(t, "of none", exact.Filter{}.Cut(0, 0, 2, 1), 2, 1, 0, 0)
	far := []int{1 << 16, 1 << 32, 1 << 40, math.MaxInt32, math.MaxInt - 3, math.MaxInt, -1 << 32, -1<<32 - 1, math.MinInt32, math.MinInt, math.MinInt + 1}
	for _, n := range append([]int{-2, 3, -3, 4}, far...) {
		hasNumbers(t, "none within, by the column", f.Cut(n, 0, 2, 2), 2, 2, 0, 0, 0, 0)
		hasNumbers(t, "none within, by the row", f.Cut(0, n, 2, 2), 2, 2, 0, 0, 0, 0)
		hasNumbers(t, "none within", f.Cut(n, n, 2, 2), 2, 2, 0, 0, 0, 0)
	}
}

// 17.3: Cut, word by word, from everywhere about.
func TestCutAny(t *testing.T) {
	for _, f := range filters() {
		for _, x := range []int{-17, -3, -1, 0, 1, f.W - 1, f.W} {
			for _, y := range []int{-17, -2, 0, 1, f.H - 1, f.H + 1} {
				for _, s := range sides {
					is(t, "Cut", f.Cut(x, y, s[0], s[1]), plainCut(plainOf(f), x, y, s[0], s[1]))
				}
			}
		}
		is(t, "Cut of all", f.Cut(0, 0, f.W, f.H), plainOf(f))
		is(t, "Cut again", f.Cut(-2, -3, f.W+5, f.H+4).Cut(2, 3, f.W, f.H), plainOf(f))
	}
}

// 17.3: Split and Join.
func TestSplitJoin(t *testing.T) {
	hasNumbers(t, "Split of one", of(1, 1, 5).Split(), 2, 2, 5, 5, 5, 5)
	hasNumbers(t, "Split of several", of(3, 2, 1, 2, 3, 4, 5, 6).Split(), 6, 4, 1, 1, 2, 2, 3, 3, 1, 1, 2, 2, 3, 3, 4, 4, 5, 5, 6, 6, 4, 4, 5, 5, 6, 6)
	hasNumbers(t, "Split of none", exact.Filter{}.Split(), 0, 0)
	hasNumbers(t, "Join of 2 by 2", of(2, 2, 1, 20, 300, 4000).Join(), 1, 1, 4321)
	hasNumbers(t, "Join of 2 by 4", of(2, 4, 1, 20, 300, 4000, 5, 60, 700, 8000).Join(), 1, 2, 4321, 8765)
	hasNumbers(t, "Join of 4 by 2", of(4, 2, 1, 20, 5, 60, 300, 4000, 700, 8000).Join(), 2, 1, 4321, 8765)
	hasNumbers(t, "Join of what was split", of(3, 2, 1, 2, 3, 4, 5, 6).Split().Join(), 3, 2, 4, 8, 12, 16, 20, 24)
	hasNumbers(t, "Join of none", exact.Filter{}.Join(), 0, 0)
	for _, f := range filters() {
		p := plainOf(f)
		is(t, "Split", f.Split(), plainSplit(p))
		is(t, "Join of what was split", f.Split().Join(), plainJoin(plainSplit(p)))
		if !areOne(f, f.Split().Join()) {
			t.Error("split and joined it is another one:", p)
		}
		if f.W%2 != 0 || f.H%2 != 0 {
			continue
		}
		is(t, "Join", f.Join(), plainJoin(p))
		if nat.Cmp(f.Join().Sum(), f.Sum()) != 0 {
			t.Error("joined something got lost:", p)
		}
	}
}

// 17.3: Lean.
func TestLean(t *testing.T) {
	hasNumbers(t, "an odd one", of(3, 1, 4, 7, 8).Lean(), 3, 1, 4, 7, 8)
	hasNumbers(t, "a power in common", of(2, 2, 24, 8, 40, 16).Lean(), 2, 2, 3, 1, 5, 2)
	hasNumbers(t, "the least power in the first one", of(2, 1, 2, 64).Lean(), 2, 1, 1, 32)
	hasNumbers(t, "with a 0", of(3, 1, 0, 12, 20).Lean(), 3, 1, 0, 3, 5)
	hasNumbers(t, "a 0 behind", of(3, 1, 12, 20, 0).Lean(), 3, 1, 3, 5, 0)
	hasNumbers(t, "all 0", of(2, 2, 0, 0, 0, 0).Lean(), 2, 2, 0, 0, 0, 0)
	hasNumbers(t, "a 0 alone", of(1, 1, 0).Lean(), 1, 1, 0)
	hasNumbers(t, "one place", of(1, 1, 1<<63).Lean(), 1, 1, 1)
	hasNumbers(t, "three times a power", of(1, 1, 3<<62).Lean(), 1, 1, 3)
	hasNumbers(t, "none", exact.Filter{}.Lean(), 0, 0)
	for _, n := range []int{0, 1, 31, 32, 33, 63, 64, 65, 96, 127, 1000} {
		f := exact.Filter{W: 3, H: 1, U: []nat.Nat{nat.Of(6).Shl(n), {}, nat.Of(5).Shl(n + 40)}}
		hasNumbers(t, "a great power", f.Lean(), 3, 1, 3, 0, 5<<39)
	}
	c := rand.New(rand.NewPCG(17, 5))
	for _, f := range filters() {
		for _, n := range []int{0, 1, c.IntN(200)} {
			much := exact.Filter{W: f.W, H: f.H}
			for _, u := range f.U {
				much.U = append(much.U, u.Shl(n))
			}
			got := much.Lean()
			is(t, "Lean", got, plainLean(plainOf(much)))
			is(t, "Lean again", got.Lean(), plainOf(got))
			if !areOne(f, got) {
				t.Error("leaner it is another one:", plainOf(f))
			}
		}
	}
}

// 17.4: what is just so far apart is not over that, but over one less.
func TestOverJust(t *testing.T) {
	for _, c := range []struct {
		what string
		g    api.Grid
		f    exact.Filter
		b    int64
	}{
		{"a quarter", grid(2, 1, 1, 1), of(2, 1, 3, 1), one / 4},
		{"a quarter the other way", grid(2, 1, 1, 3), of(2, 1, 7, 7), one / 4},
		{"a half", grid(1, 2, 8, 0), of(1, 2, 5, 5), one / 2},
		{"all of it", grid(2, 1, whole, 0), of(2, 1, 0, 1), one},
		{"all of it, of several", grid(2, 2, 3, 0, 0, 5), of(2, 2, 0, 9, 1, 0), one},
		{"the least that can be told", grid(2, 1, 1<<39+1, 1<<39-1), of(2, 1, 1, 1), 1},
		{"an eighth, place by place", grid(2, 2, 3, 1, 2, 2), of(2, 2, 2, 2, 2, 2), one / 8},
		{"three places", grid(3, 1, 4, 2, 2), of(3, 1, 2, 2, 4), one / 4},
		{"a 0 for what is below it", grid(3, 1, -9, 1, 1), of(3, 1, 0, 3, 1), one / 4},
		{"great numbers", grid(2, 1, hi, hi), of(2, 1, 3<<62, 1<<62), one / 4},
	} {
		for _, above := range []int64{0, 1, 2, one, hi - c.b} {
			if exact.Over(c.g, c.f, c.b+above) {
				t.Error(c.what, "is over", c.b+above)
			}
		}
		for _, b := range []int64{c.b - 1, c.b - 2, 0, -1, -c.b, c.b - one, lo} {
			if !exact.Over(c.g, c.f, b) {
				t.Error(c.what, "is not over", b)
			}
		}
	}
}

// 17.4: a third of it lies between two numbers that can be told.
func TestOverBetween(t *testing.T) {
	g, f := grid(3, 1, 1, 1, 1), of(3, 1, 2, 1, 0)
	if !exact.Over(g, f, one/3) || exact.Over(g, f, one/3+1) || !exact.Over(g, f, one/3-1) {
		t.Error("a third")
	}
	g, f = grid(3, 1, 1, 0, 0), of(3, 1, 1, 1, 1)
	if !exact.Over(g, f, 2*one/3) || exact.Over(g, f, 2*one/3+1) {
		t.Error("two thirds")
	}
	// What is apart by less than can be told is apart.
	g = grid(2, 1, 1, 1)
	f = exact.Filter{W: 2, H: 1, U: []nat.Nat{nat.Of(1).Shl(500), nat.Add(nat.Of(1).Shl(500), nat.Of(1))}}
	if !exact.Over(g, f, 0) || exact.Over(g, f, 1) {
		t.Error("a very little")
	}
}

// 17.4: nothing is apart from itself, whatever the numbers are of which it is made.
func TestOverOfItself(t *testing.T) {
	c := rand.New(rand.NewPCG(17, 6))
	for _, s := range sides {
		g := grid(s[0], s[1], anyPlaces(c, s[0]*s[1])...)
		f := exact.From(g)
		for _, f := range []exact.Filter{f, f.Spread(0), f.Split().Join(), f.Lean(), f.Weigh(slices.Repeat([]int64{hi}, len(f.U)))} {
			for _, b := range []int64{0, -1, lo, lo + 1, -one, -1 << 32, 1, one, hi} {
				if exact.Over(g, f, b) {
					t.Error(g, "is over", b, "from itself")
				}
			}
		}
	}
}

// bounds is what two may be apart by: about 0, about all of it, at the ends, and what would be another one were it cut off.
var bounds = []int64{lo, lo + 1, -one, -1 << 32, -2, -1, 0, 1, 2, 1 << 32, 1<<39 - 1, 1 << 39, one - 1, one, one + 1, 1 << 41, 1 << 62, 1<<62 + 1, 1<<63 - one, hi - 1, hi}

// 17.4: where nothing is believed.
func TestOverOfNothing(t *testing.T) {
	some, none := grid(2, 1, 5, 6), grid(2, 1, 0, 0)
	for _, b := range bounds {
		for _, c := range []struct {
			g api.Grid
			f exact.Filter
		}{
			{none, exact.From(some)},
			{some, exact.From(none)},
			{none, exact.From(none)},
			{grid(2, 1, -5, lo), exact.From(some)},
			{some, exact.Filter{W: 2, H: 1, U: make([]nat.Nat, 2)}},
			{some, exact.From(some).Weigh(nil)},
			{api.Grid{}, exact.Filter{}},
		} {
			if got := exact.Over(c.g, c.f, b); got != (b < one) {
				t.Error(c.g, plainOf(c.f), b, got)
			}
		}
	}
}

// 17.4: as many places, or not; how they lie is not asked for.
func TestOverOfOtherPlaces(t *testing.T) {
	for _, b := range bounds {
		for _, c := range []struct {
			g api.Grid
			f exact.Filter
		}{
			{grid(2, 1, 1, 1), of(1, 1, 1)},
			{grid(1, 1, 1), of(2, 1, 1, 1)},
			{grid(2, 1, 1, 1), of(2, 2, 1, 1, 1, 1)},
			{grid(2, 1, 1, 1), of(3, 1, 1, 1, 0)},
			{grid(3, 1, 1, 1, 0), of(2, 1, 1, 1)},
			{grid(1, 1, 1), exact.Filter{}},
			{api.Grid{}, of(1, 1, 1)},
			{grid(2, 1, 0, 0), of(1, 1, 1)},
			{grid(2, 1, 1, 1), of(1, 1, 0)},
		} {
			if !exact.Over(c.g, c.f, b) {
				t.Error(c.g, plainOf(c.f), b)
			}
		}
		if got := exact.Over(grid(2, 1, 1, 1), of(1, 2, 3, 1), b); got != (b < one/4) {
			t.Error("other sides:", b, got)
		}
	}
}

// 17.4: Over, word by word; either way round it is the same.
func TestOverAny(t *testing.T) {
	c := rand.New(rand.NewPCG(17, 7))
	for range 300 {
		s := sides[c.IntN(len(sides))]
		g, f := grid(s[0], s[1], anyPlaces(c, s[0]*s[1])...), anyFilter(c, s[0], s[1])
		if !f.Sum().Zero() {
			isOver(t, g, f)
		}
		h := grid(s[0], s[1], anyPlaces(c, s[0]*s[1])...)
		isOver(t, g, exact.From(h))
		isOver(t, h, exact.From(g))
		for _, b := range append(bounds, c.Int64N(one), least(g, exact.From(h)), least(g, exact.From(h))-1) {
			if exact.Over(g, exact.From(h), b) != exact.Over(h, exact.From(g), b) {
				t.Error(g, h, "not the same the other way round:", b)
			}
		}
	}
}

// isOver holds Over against 17.4's words, about how far both are apart, and elsewhere.
func isOver(t *testing.T, g api.Grid, f exact.Filter) {
	t.Helper()
	p := plainOf(f)
	apart := plainApart(g.P, p)
	number := new(big.Int).Lsh(apart.Num(), 40)
	below := number.Div(number, apart.Denom()).Int64()
	for _, b := range append(bounds, below-1, below, below+1, below+2) {
		if got := exact.Over(g, f, b); got != (apart.Cmp(big.NewRat(max(b, 0), one)) > 0) {
			t.Error(g, p, b, got)
		}
	}
}

// least is the least number that a grid and a filter are not over; 2^40 + 1: there is none that may be.
func least(g api.Grid, f exact.Filter) int64 {
	from, to := int64(0), int64(one+1)
	for from < to {
		if b := (from + to) / 2; exact.Over(g, f, b) {
			from = b + 1
		} else {
			to = b
		}
	}
	return from
}

// 17.5: no two are further apart than one, and going round is no shorter.
func TestApart(t *testing.T) {
	c := rand.New(rand.NewPCG(17, 8))
	for range 200 {
		s := sides[c.IntN(len(sides))]
		n := s[0] * s[1]
		g, h, k := grid(s[0], s[1], anyPlaces(c, n)...), grid(s[0], s[1], anyPlaces(c, n)...), grid(s[0], s[1], anyPlaces(c, n)...)
		if c.IntN(4) == 0 { // what lies on the way from one to the other
			for i := range h.P {
				h.P[i] = g.P[i] + k.P[i]
			}
		}
		straight, there, on := least(g, exact.From(k)), least(g, exact.From(h)), least(h, exact.From(k))
		if straight > one || there > one || on > one {
			t.Error(g, h, k, "further apart than one:", straight, there, on)
		}
		if straight > there+on {
			t.Error(g, h, k, "going round is shorter:", straight, there, on)
		}
	}
}

// TestManyActs: filters behind many acts, one behind the other, held against the same in numbers of another kind; their numbers have many parts.
func TestManyActs(t *testing.T) {
	c := rand.New(rand.NewPCG(17, 9))
	for range 6 {
		g := grid(6, 4, anyPlaces(c, 24)...)
		f := exact.From(g)
		p := plain{w: 6, h: 4, u: numbers(g.P...)}
		longest := 0
		for n := range 100 {
			f, p = act(c, n%5, f, p)
			is(t, "behind many acts", f, p)
			longest = max(longest, f.Sum().Bits())
			if n%9 == 0 {
				isOver(t, grid(f.W, f.H, anyPlaces(c, len(f.U))...), f)
				isOver(t, near(f), f)
			}
		}
		if longest < 1200 {
			t.Error("the numbers are short:", longest)
		}
		is(t, "leaner", f.Lean(), plainLean(p))
	}
}

// act is one act on a filter, and the same in numbers of another kind.
func act(c *rand.Rand, which int, f exact.Filter, p plain) (exact.Filter, plain) {
	switch which {
	case 0, 3:
		q := 1 + c.Int64N(85)
		return f.Spread(uint64(q)), plainSpread(p, q)
	case 1, 4:
		l := make([]int64, len(f.U))
		for i := range l {
			l[i] = 655 + c.Int64N(65536-655)
		}
		return f.Weigh(l), plainWeigh(p, l)
	}
	if f.W > 8 || f.H > 8 {
		return f.Join(), plainJoin(p)
	}
	if c.IntN(2) == 0 {
		return f.Split(), plainSplit(p)
	}
	x, y := c.IntN(3)-1, c.IntN(3)-1
	return f.Cut(x, y, 6, 4), plainCut(p, x, y, 6, 4)
}

// near is a grid that is what a filter is, but for what is rounded off.
func near(f exact.Filter) api.Grid {
	g := grid(f.W, f.H)
	for _, u := range f.U {
		share, _ := nat.Div(u.Times(whole), f.Sum())
		x, _ := share.Uint()
		g.P = append(g.P, int64(x))
	}
	return g
}

// TestGridFollows: a grid that is rounded off, act by act, is as far from its filter as its words say, and no further than one for each place and act.
func TestGridFollows(t *testing.T) {
	c := rand.New(rand.NewPCG(17, 10))
	f := exact.From(grid(5, 5, anyPlaces(c, 25)...))
	for range 40 {
		f = f.Spread(64).Lean()
		g := near(f)
		isOver(t, g, f)
		if exact.Over(g, f, 25<<10) {
			t.Error("what was rounded off is too much")
		}
	}
}

// acts is all that can be done to a filter.
func acts(f exact.Filter, l []int64) []exact.Filter {
	return []exact.Filter{f.Spread(0), f.Spread(85), f.Weigh(l), f.Weigh(l[:1]), f.Cut(0, 0, f.W, f.H), f.Cut(-1, 1, 3, 2), f.Split(), f.Join(), f.Lean()}
}

// TestNothingIsShared: what came in is as it was behind each call; what lies behind a list's length is neither read nor written to; and what is told is new memory.
func TestNothingIsShared(t *testing.T) {
	for _, u := range [][]uint64{{1, 2, 3, 4, 99, 98}, {8, 16, 0, 24, 99, 98}, {0, 0, 0, 0, 99, 98}, {1 << 40, 1 << 50, 1 << 60, 7 << 40, 99, 98}} {
		room := of(2, 2, u...)
		f := exact.Filter{W: 2, H: 2, U: room.U[:4]}
		l := []int64{5, 6, 7, 8, 9}
		p := []int64{3, 0, -4, 5, 97}
		g := grid(2, 2, p[:4]...)
		before := plainOf(room)
		for range 2 {
			for n, told := range acts(f, l[:4]) {
				if cap(told.U) != len(told.U) {
					t.Error("act", n, "has room for more")
				}
				clear(told.U)
			}
			f.Sum()
			exact.Over(g, f, 5)
			from := exact.From(g)
			hasNumbers(t, "From", from, 2, 2, 3, 0, 0, 5)
			clear(from.U)
		}
		is(t, "what came in", room, before)
		if !slices.Equal(l, []int64{5, 6, 7, 8, 9}) || !slices.Equal(p, []int64{3, 0, -4, 5, 97}) {
			t.Error("what came in was changed:", l, p)
		}
		once, again := acts(f, l[:4]), acts(f, l[:4])
		for n := range once {
			kept := plainOf(again[n])
			clear(once[n].U)
			is(t, "the same act again", again[n], kept)
		}
	}
}

// TestNotKept: what is told stays as it is, whatever comes of what came in.
func TestNotKept(t *testing.T) {
	g := grid(2, 2, 8, 4, 12, 20)
	f := exact.From(g)
	l := []int64{1, 2, 3, 4}
	var told []exact.Filter
	var kept []plain
	for _, x := range acts(f, l) {
		told = append(told, x)
		kept = append(kept, plainOf(x))
	}
	clear(g.P)
	hasNumbers(t, "the grid was changed", f, 2, 2, 8, 4, 12, 20)
	clear(l)
	clear(f.U)
	for n := range told {
		is(t, "the filter was changed", told[n], kept[n])
	}
}

// TestWrongEnds: what is not promised ends, too, and tells of no places.
func TestWrongEnds(t *testing.T) {
	f := of(2, 2, 1, 2, 3, 4)
	for _, q := range []uint64{86, 127, 128, 129, 256, 1 << 32, 1<<32 + 1, 1 << 63, math.MaxUint64} {
		hasNumbers(t, "Spread by too much", f.Spread(q), 0, 0)
	}
	wrong := []int{0, -1, -2, math.MinInt32, math.MinInt, math.MinInt + 2, -1<<32 + 2, 1 << 32, 1<<32 + 2, 1 << 62, math.MaxInt - 1, math.MaxInt}
	for _, n := range wrong {
		hasNumbers(t, "Cut of so many columns", f.Cut(0, 0, n, 1), 0, 0)
		hasNumbers(t, "Cut of so many rows", f.Cut(0, 0, 1, n), 0, 0)
		hasNumbers(t, "Cut of so many both ways", f.Cut(n, n, n, n), 0, 0)
	}
	hasNumbers(t, "Cut of more than can be told", f.Cut(0, 0, 1<<20, 1<<20), 0, 0)
	hasNumbers(t, "Join of 1 by 1", of(1, 1, 1).Join(), 0, 0)
	hasNumbers(t, "Join of 3 by 2", of(3, 2, 1, 2, 3, 4, 5, 6).Join(), 0, 0)
	hasNumbers(t, "Join of 2 by 3", of(2, 3, 1, 2, 3, 4, 5, 6).Join(), 0, 0)
	for _, g := range []exact.Filter{of(1, 2, 1), of(2, 1, 1, 2, 3), of(2, 2), of(0, 0, 5)} {
		for _, told := range []exact.Filter{g.Spread(5), g.Cut(0, 0, 2, 2), g.Split()} {
			hasNumbers(t, "of other places than the sides tell of", told, 0, 0)
		}
	}
	for _, w := range append(wrong, 1, 2, 3) {
		for _, h := range append(wrong, 1, 2, 3) {
			for _, n := range []int{0, 1, 5, 7} {
				isEnded(t, exact.Filter{W: w, H: h, U: f.Split().U[:n]})
			}
		}
	}
}

// isEnded does everything to a filter whose sides may not be its own.
func isEnded(t *testing.T, f exact.Filter) {
	for _, g := range []exact.Filter{f.Spread(85), f.Cut(0, 0, 2, 2), f.Cut(-1, 0, 1, 3), f.Split(), f.Join()} {
		if g.W*g.H != len(g.U) {
			t.Error(f.W, f.H, len(f.U), "became", g.W, g.H, len(g.U))
		}
	}
	p := make([]int64, len(f.U))
	f.Weigh(p)
	f.Lean()
	f.Sum()
	g := api.Grid{W: f.W, H: f.H, Step: 64, P: p}
	if n := len(exact.From(g).U); n != len(p) {
		t.Error(f.W, f.H, len(p), "places became", n)
	}
	exact.Over(g, f, 5)
}

// The chapter's example.
func TestExample(t *testing.T) {
	g := grid(2, 1, whole/2, whole/2)
	f := exact.From(g).Weigh([]int64{3, 1})
	if exact.Over(g, f, 1<<38) || !exact.Over(g, f, 1<<38-1) || least(g, f) != 1<<38 {
		t.Error("not a quarter:", least(g, f))
	}
	if exact.Point != 40 {
		t.Error(exact.Point)
	}
}
