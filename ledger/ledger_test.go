package ledger_test

import (
	"math"
	"math/big"
	"math/rand/v2"
	"testing"

	"theodolite/api"
	"theodolite/exact"
	"theodolite/grid"
	"theodolite/ledger"
	"theodolite/nat"
	"theodolite/wide"
)

const (
	one   = 1 << 40
	scale = 1 << 16
	whole = 1 << 30
	hi    = math.MaxInt64
	lo    = math.MinInt64
)

// of is a number that has room in 64 bits as a great one.
func of(x int64) *big.Int { return big.NewInt(x) }

// number is what a number of 128 bits stands for.
func number(z wide.Int) *big.Int {
	x := new(big.Int).Lsh(of(z.Hi), 64)
	return x.Add(x, new(big.Int).SetUint64(z.Lo))
}

// widened is a great number as one of 128 bits; false: it has no room.
func widened(x *big.Int) (wide.Int, bool) {
	if x.Sign() < 0 || x.BitLen() > 127 {
		return wide.Int{}, false
	}
	z := wide.Int{Hi: new(big.Int).Rsh(x, 64).Int64(), Lo: new(big.Int).And(x, new(big.Int).SetUint64(math.MaxUint64)).Uint64()}
	return z, number(z).Cmp(x) == 0
}

// times is the product of all numbers.
func times(l ...int64) *big.Int {
	all := of(1)
	for _, x := range l {
		all.Mul(all, of(x))
	}
	return all
}

// roundedUp is a quotient of numbers, the second one of them above 0: the least whole number that is no less.
func roundedUp(a, b *big.Int) *big.Int {
	x, rest := new(big.Int).DivMod(a, b, new(big.Int))
	if rest.Sign() != 0 {
		x.Add(x, of(1))
	}
	return x
}

// capped is a number, or One, if that is less.
func capped(x *big.Int) int64 {
	if x.Cmp(of(one)) > 0 {
		return one
	}
	return x.Int64()
}

// plainCost is 18.1's Cost, word by word.
func plainCost(n int) int64 {
	return roundedUp(times(int64(n), 1<<40), of(1<<30-4*int64(n))).Int64()
}

// plainTogether is 18.1's two bounds together, word by word.
func plainTogether(a, b int64) int64 { return capped(new(big.Int).Add(of(a), of(b))) }

// plainScaled is 18.2's Scaled, word by word.
func plainScaled(b, most, s int64, z wide.Int) int64 {
	if number(z).Sign() <= 0 {
		return one
	}
	return capped(roundedUp(times(b, most, s), number(z)))
}

// places is how many places a grid may have: none, the least, the most, and some between.
var places = []int{0, 1, 2, 64, 1000, 4095, 4096}

// bounds is bounds of a book: 0, the least, the greatest, and some between.
var bounds = []int64{0, 1, 2, 65536, 1 << 32, 1<<32 + 1, one/2 + 1, one - 1, one}

// 18.1: Cost, and One.
func TestCost(t *testing.T) {
	for _, c := range []struct {
		n    int
		want int64
	}{
		{0, 0},
		{1, 1025},
		{2, 2049},
		{64, 65537},
		{1024, 1048581},
		{4095, 4193344},
		{4096, 4194369},
	} {
		if got := ledger.Cost(c.n); got != c.want || plainCost(c.n) != c.want {
			t.Error(c.n, got, plainCost(c.n), "not", c.want)
		}
	}
	if ledger.One != one {
		t.Error("One is", ledger.One)
	}
}

// 18.1: Cost of each number of places is rounded up, and not further.
func TestCostAny(t *testing.T) {
	for n := range 4097 {
		got := ledger.Cost(n)
		if got != plainCost(n) {
			t.Error(n, got, "not", plainCost(n))
		}
		parts, from := of(1<<30-4*int64(n)), times(int64(n), one)
		if new(big.Int).Mul(of(got), parts).Cmp(from) < 0 {
			t.Error(n, got, "is less than the quotient")
		}
		if n > 0 && new(big.Int).Mul(of(got-1), parts).Cmp(from) >= 0 {
			t.Error(n, got, "is more than the quotient rounded up")
		}
	}
}

// 18.1: two bounds together are their sum, or One.
func TestTogether(t *testing.T) {
	z := wide.Of(1)
	for _, n := range places {
		cost := plainCost(n)
		for more, want := range map[int64]int64{-2: one - 2, -1: one - 1, 0: one, 1: one, 2: one} {
			for _, c := range []struct {
				what  string
				times int64
				act   func(k ledger.Book) ledger.Book
			}{
				{"Spread", 3, func(k ledger.Book) ledger.Book { return k.Spread(n) }},
				{"Weigh", 1, func(k ledger.Book) ledger.Book { return k.Weigh(n, 1, 1, z) }},
				{"Cut", 1, func(k ledger.Book) ledger.Book { return k.Cut(n, 7, 7) }},
				{"Split", 2, func(k ledger.Book) ledger.Book { return k.Split(n) }},
				{"Join", 1, func(k ledger.Book) ledger.Book { return k.Join(n) }},
			} {
				b := one - c.times*cost + more
				if b > one {
					continue
				}
				if got := c.act(ledger.Book{B: b}); got.B != want {
					t.Error(c.what, "of", n, "places, from", b, "on:", got.B, "not", want)
				}
			}
		}
	}
}

// 18.2: Scaled, by numbers that are told.
func TestScaled(t *testing.T) {
	for _, c := range []struct {
		what       string
		b, most, s int64
		z          wide.Int
		want       int64
	}{
		{"nothing", 0, 1, 1, wide.Of(1), 0},
		{"nothing, by the least", 0, scale, whole, wide.Of(1), 0},
		{"nothing, by the greatest", 0, scale, whole, wide.Int{Hi: hi, Lo: math.MaxUint64}, 0},
		{"most 0", one, 0, whole, wide.Of(1), 0},
		{"s 0", one, scale, 0, wide.Of(1), 0},
		{"the least", 1, 1, 1, wide.Of(1), 1},
		{"the least, by more", 1, 1, 1, wide.Of(2), 1},
		{"the least, by the greatest", 1, 1, 1, wide.Int{Hi: hi, Lo: math.MaxUint64}, 1},
		{"by 0", 5, 1, 1, wide.Int{}, one},
		{"nothing, by 0", 0, 0, 0, wide.Int{}, one},
		{"below 0", 5, 1, 1, wide.Of(-1), one},
		{"nothing, below 0", 0, 0, 0, wide.Of(-1), one},
		{"far below 0", 5, 1, 1, wide.Of(lo), one},
		{"below 0, the upper part alone", 5, 1, 1, wide.Int{Hi: -1, Lo: 0}, one},
		{"below 0, by one, with a great lower part", 5, 1, 1, wide.Int{Hi: -1, Lo: math.MaxUint64}, one},
		{"below 0, the furthest", 5, 1, 1, wide.Int{Hi: lo}, one},
		{"above 0, the sign of 64 bits set", 1 << 30, 1 << 16, 1 << 30, wide.Int{Lo: 1 << 63}, 1 << 13},
		{"One as it is", one, 1, 1, wide.Of(1), one},
		{"One less one", one - 1, 1, 1, wide.Of(1), one - 1},
		{"half", one, 1, 1, wide.Of(2), one / 2},
		{"without a rest", 7, 5, 3, wide.Of(15), 7},
		{"one less than without a rest", 7, 5, 3, wide.Of(14), 8},
		{"one more than without a rest", 7, 5, 3, wide.Of(16), 7},
		{"by what there is", 7, 5, 3, wide.Of(105), 1},
		{"by one less than there is", 7, 5, 3, wide.Of(104), 2},
		{"by one more than there is", 7, 5, 3, wide.Of(106), 1},
		{"by half of it", 7, 5, 3, wide.Of(52), 3},
		{"just One", 1 << 20, 1 << 10, 1 << 12, wide.Of(4), one},
		{"more than One", 1 << 20, 1 << 10, 1 << 12, wide.Of(3), one},
		{"less than One", 1 << 20, 1 << 10, 1 << 12, wide.Of(5), 879609302221},
		{"One, since it is rounded up", 1, 13367, 164511353, wide.Of(2), one},
		{"the greatest that is less", 1, 61681, 17825775, wide.Of(1), one - 1},
		{"the greatest that is less, with a rest", 1, 61681, 17825775 * 2, wide.Of(2), one - 1},
		{"all at their greatest", one, scale, whole, wide.Int{Hi: hi, Lo: math.MaxUint64}, 1},
		{"all at their greatest, by their product", one, scale, whole, wide.Int{Hi: 1 << 22}, 1},
		{"all at their greatest, by one less", one, scale, whole, wide.Int{Hi: 1<<22 - 1, Lo: math.MaxUint64}, 2},
		{"all at their greatest, by one more", one, scale, whole, wide.Int{Hi: 1 << 22, Lo: 1}, 1},
		{"all at their greatest, just One", one, scale, whole, wide.Of(1 << 46), one},
		{"all at their greatest, more than One", one, scale, whole, wide.Of(1<<46 - 1), one},
		{"all at their greatest, less than One", one, scale, whole, wide.Of(1<<46 + 1), one},
		{"all at their greatest, less than One by one", one, scale, whole, wide.Of(1<<46 + 1<<6 + 1), one - 1},
		{"all at their greatest, by 1", one, scale, whole, wide.Of(1), one},
		{"by 2^64", one, scale, whole, wide.Int{Hi: 1}, 1 << 22},
		{"by 2^64 less one", one, scale, whole, wide.Int{Lo: math.MaxUint64}, 1<<22 + 1},
		{"by 2^64 and one", one, scale, whole, wide.Int{Hi: 1, Lo: 1}, 1 << 22},
		{"by 2^63", one, scale, whole, wide.Int{Lo: 1 << 63}, 1 << 23},
	} {
		if got := ledger.Scaled(c.b, c.most, c.s, c.z); got != c.want || plainScaled(c.b, c.most, c.s, c.z) != c.want {
			t.Error(c.what, got, plainScaled(c.b, c.most, c.s, c.z), "not", c.want)
		}
	}
}

// divisors is numbers by which a product is divided: those below 0, those about which words of a number end, and those about which the answer turns.
func divisors(product *big.Int) []wide.Int {
	all := []wide.Int{{}, wide.Of(-1), wide.Of(lo), {Hi: -1}, {Hi: lo}, {Hi: lo, Lo: 1}, {Hi: hi, Lo: math.MaxUint64}}
	for _, n := range []int{0, 1, 2, 16, 30, 31, 32, 40, 46, 62, 63, 64, 65, 85, 86, 87, 126} {
		all = appendAround(all, new(big.Int).Lsh(of(1), uint(n)))
	}
	for _, by := range []int64{1, 2, 3, 65537, one - 1, one, one + 1} {
		all = appendAround(all, new(big.Int).Div(product, of(by)))
	}
	return all
}

// appendAround is numbers, and that of x, of one less and of one more that have room.
func appendAround(all []wide.Int, x *big.Int) []wide.Int {
	for more := range int64(3) {
		if z, ok := widened(new(big.Int).Add(x, of(more-1))); ok {
			all = append(all, z)
		}
	}
	return all
}

// 18.2: Scaled, word by word.
func TestScaledAny(t *testing.T) {
	for _, b := range bounds {
		for _, most := range []int64{0, 1, 2, 3, 32769, scale - 1, scale} {
			for _, s := range []int64{0, 1, 2, 5, 1<<20 + 1, whole - 1, whole} {
				for _, z := range divisors(times(b, most, s)) {
					if got, want := ledger.Scaled(b, most, s, z), plainScaled(b, most, s, z); got != want {
						t.Error(b, most, s, number(z), got, "not", want)
					}
				}
			}
		}
	}
	c := rand.New(rand.NewPCG(18, 1))
	for range 20000 {
		b, most, s := c.Int64N(one+1)>>c.IntN(40), c.Int64N(scale+1)>>c.IntN(16), c.Int64N(whole+1)>>c.IntN(30)
		z := wide.Int{Lo: c.Uint64() >> c.IntN(64)}
		if c.IntN(4) == 0 {
			z.Hi = (c.Int64() - 1<<60) >> c.IntN(63)
		}
		if got, want := ledger.Scaled(b, most, s, z), plainScaled(b, most, s, z); got != want {
			t.Error(b, most, s, number(z), got, "not", want)
		}
	}
}

// 18.2: what is answered is no less than the quotient, and less than one more, or One.
func TestScaledIsRoundedUp(t *testing.T) {
	c := rand.New(rand.NewPCG(18, 2))
	below, turned := 0, 0
	for range 5000 {
		most, s := c.Int64N(scale)+1, c.Int64N(whole)+1
		z := wide.Of(c.Int64N(most*s) + 1)
		// The greatest bound of which the quotient is no more than One, or one that is near to it.
		greatest := new(big.Int).Div(new(big.Int).Mul(of(one), number(z)), times(most, s)).Int64()
		b := min(max(greatest+c.Int64N(5)-2, 0), one)
		got, product := of(ledger.Scaled(b, most, s, z)), times(b, most, s)
		got.Mul(got, number(z))
		isOne := product.Cmp(new(big.Int).Mul(of(one), number(z))) > 0
		if isOne != (got.Cmp(product) < 0) {
			t.Error(b, most, s, number(z), "is less than the quotient, and not One")
		}
		if !isOne && new(big.Int).Sub(got, product).Cmp(number(z)) >= 0 {
			t.Error(b, most, s, number(z), "is more than the quotient rounded up")
		}
		if isOne {
			turned++
		} else {
			below++
		}
	}
	if below < 500 || turned < 500 {
		t.Error("too few of one kind:", below, turned)
	}
}

// is holds a book against a bound and a number of steps.
func is(t *testing.T, what string, got ledger.Book, b int64, steps int) {
	t.Helper()
	if got != (ledger.Book{B: b, Steps: steps}) {
		t.Errorf("%s: %d behind %d steps, not %d behind %d", what, got.B, got.Steps, b, steps)
	}
}

// 18.3: each step, by numbers that are told.
func TestSteps(t *testing.T) {
	var k ledger.Book
	is(t, "a new one", k, 0, 0)
	is(t, "Spread", k.Spread(64), 3*65537, 1)
	is(t, "Weigh", k.Weigh(64, 65536, whole, wide.Of(1<<40)), 65537, 1)
	is(t, "Cut", k.Cut(64, whole, 1), 65537, 1)
	is(t, "Split", k.Split(64), 2*65537, 1)
	is(t, "Join", k.Join(64), 65537, 1)
	k = ledger.Book{B: 1000, Steps: 41}
	is(t, "Spread from there on", k.Spread(1), 1000+3*1025, 42)
	is(t, "Weigh from there on", k.Weigh(1, 6, 5, wide.Of(7)), 4286+1025, 42)
	is(t, "Weigh by a number of more than 64 bits", k.Weigh(1, 6, 5, wide.Int{Hi: 1}), 1+1025, 42)
	is(t, "Weigh, and nothing is left", k.Weigh(1, 6, 5, wide.Int{}), one, 42)
	is(t, "Weigh, below 0", k.Weigh(0, 6, 5, wide.Of(-7)), one, 42)
	is(t, "Cut from there on", k.Cut(1, 5, 7), 715+1025, 42)
	is(t, "Cut, and nothing is left", k.Cut(0, 5, 0), one, 42)
	is(t, "Split from there on", k.Split(1), 1000+2*1025, 42)
	is(t, "Join from there on", k.Join(1), 1000+1025, 42)
	is(t, "as it was", k, 1000, 41)
	is(t, "one behind the other", k.Spread(64).Split(4096).Join(1).Cut(2, 4, 3).Weigh(0, 3, 4, wide.Of(6)), 2*(((1000+3*65537+2*4194369+1025)*4+2)/3+2049), 46)
}

// 18.3: each step of any book, word by word.
func TestStepsAny(t *testing.T) {
	for _, b := range bounds {
		for i, n := range places {
			k, cost := ledger.Book{B: b, Steps: i * 1000}, plainCost(n)
			is(t, "Spread", k.Spread(n), plainTogether(b, 3*cost), k.Steps+1)
			is(t, "Split", k.Split(n), plainTogether(b, 2*cost), k.Steps+1)
			is(t, "Join", k.Join(n), plainTogether(b, cost), k.Steps+1)
			for _, s := range []int64{0, 1, 2, whole / 3, whole - 1, whole} {
				for _, kept := range []int64{0, 1, 2, whole / 3, whole - 1, whole} {
					want := plainTogether(plainScaled(b, 1, s, wide.Of(kept)), cost)
					is(t, "Cut", k.Cut(n, s, kept), want, k.Steps+1)
				}
				for _, most := range []int64{0, 1, 2, scale - 1, scale} {
					for _, z := range []wide.Int{{}, wide.Of(-1), {Hi: lo}, wide.Of(1), wide.Of(most * s), wide.Of(most*s + 1), wide.Of(1 << 46), {Hi: 1}, {Hi: hi, Lo: 5}} {
						want := plainTogether(plainScaled(b, most, s, z), cost)
						is(t, "Weigh", k.Weigh(n, most, s, z), want, k.Steps+1)
					}
				}
			}
			is(t, "as it was", k, b, i*1000)
		}
	}
}

// 18.3: Over of each power.
func TestOver(t *testing.T) {
	for power := range 41 {
		at := int64(one)
		for range power {
			at /= 2
		}
		for b, want := range map[int64]bool{0: false, at - 1: false, at: false, at + 1: true, 2*at + 1: true} {
			if got := (ledger.Book{B: b, Steps: 3}).Over(power); got != want {
				t.Error("is", b, "over One divided by 2^", power, got)
			}
		}
	}
	for _, power := range []int{-1, 41, 42, 63, 64, -40, -64, 256, -1 << 32, 1 << 32, 1<<32 + 1, math.MaxInt, math.MinInt} {
		for _, b := range bounds {
			if !(ledger.Book{B: b}).Over(power) {
				t.Error("is", b, "not over a power of", power)
			}
		}
	}
	if !(ledger.Book{B: 1<<32 + 1}).Over(39) || (ledger.Book{B: one}).Over(0) || !(ledger.Book{B: one}).Over(1) {
		t.Error("what is beyond 32 bits gets lost")
	}
}

// flight is a grid, the filter to which the same is done, and the book.
type flight struct {
	g api.Grid
	f exact.Filter
	k ledger.Book
	// apart and told are how many steps there were behind which something was rounded off, and the book was less than One.
	apart, told int
}

// begun is a flight that begins with a grid, and a book of 0.
func begun(t *testing.T, g api.Grid) *flight {
	t.Helper()
	if code := grid.Check(g); code != api.OK {
		t.Fatal("a wrong grid", code)
	}
	return &flight{g: g, f: exact.From(g)}
}

// normal makes a grid whole, and tells whether something is left of it.
func (x *flight) normal(g api.Grid) bool {
	made, code := grid.Normal(g)
	x.g = made
	return code == api.OK
}

// holds asks whether the grid is no further from the filter than the book says.
func (x *flight) holds(t *testing.T, what string, steps int) {
	t.Helper()
	x.f = x.f.Lean()
	if exact.Over(x.g, x.f, x.k.B) {
		t.Fatalf("%s, step %d, %d by %d places: further away than %d", what, x.k.Steps, x.g.W, x.g.H, x.k.B)
	}
	if x.k.Steps != steps || x.k.B < 0 || x.k.B > one {
		t.Fatalf("%s: a book of %d behind %d steps", what, x.k.B, x.k.Steps)
	}
	if x.k.B < one {
		x.told++
	}
	if exact.Over(x.g, x.f, 0) {
		x.apart++
	}
}

// spread does so to all three.
func (x *flight) spread(t *testing.T, q int64) {
	t.Helper()
	g, code := grid.Spread(x.g, q)
	if code != api.OK || !x.normal(g) {
		t.Fatal("not spread", code)
	}
	x.f, x.k = x.f.Spread(uint64(q)), x.k.Spread(grid.Len(g))
}

// weigh does so to all three; false: nothing would be left.
func (x *flight) weigh(t *testing.T, l []int64) bool {
	t.Helper()
	g, z, most, code := grid.Weigh(x.g, l)
	if code == api.ErrNone {
		return false
	}
	if code != api.OK {
		t.Fatal("not weighed", code)
	}
	x.k = x.k.Weigh(grid.Len(g), most, grid.Sum(x.g), z)
	x.g, x.f = g, x.f.Weigh(l)
	return true
}

// cut does so to all three; false: nothing would be left.
func (x *flight) cut(t *testing.T, column, row, w, h int) bool {
	t.Helper()
	g, code := grid.Cut(x.g, column, row, w, h)
	if code != api.OK {
		t.Fatal("not cut", code)
	}
	s, kept := grid.Sum(x.g), grid.Sum(g)
	if kept == 0 {
		return false
	}
	x.normal(g)
	x.f, x.k = x.f.Cut(column, row, w, h), x.k.Cut(grid.Len(g), s, kept)
	return true
}

// split does so to all three; false: it can't be.
func (x *flight) split() bool {
	g, code := grid.Split(x.g)
	if code != api.OK || !x.normal(g) {
		return false
	}
	x.f, x.k = x.f.Split(), x.k.Split(grid.Len(g))
	return true
}

// join does so to all three; false: it can't be.
func (x *flight) join() bool {
	g, code := grid.Join(x.g)
	if code != api.OK || !x.normal(g) {
		return false
	}
	x.f, x.k = x.f.Join(), x.k.Join(grid.Len(g))
	return true
}

// weights is so many weights: of a bell, of few that count alone, or of chance.
func weights(c *rand.Rand, w, h int) []int64 {
	l := make([]int64, w*h)
	kind, column, row := c.IntN(4), c.IntN(w), c.IntN(h)
	for i := range l {
		dx, dy := i%w-column, i/w-row
		switch kind {
		case 0:
			l[i] = scale >> min((dx*dx+dy*dy)/4, 16)
		case 1:
			l[i] = 655 + c.Int64N(scale-655)
		case 2:
			l[i] = c.Int64N(scale+1) >> c.IntN(17)
		case 3:
			l[i] = scale - c.Int64N(300)
		}
	}
	return l
}

// anyStep does something to all three, and tells what; false: it can't be done here.
func (x *flight) anyStep(t *testing.T, c *rand.Rand, mostPlaces int) (string, bool) {
	t.Helper()
	w, h := x.g.W, x.g.H
	switch c.IntN(8) {
	case 0, 1:
		x.spread(t, c.Int64N(86))
		return "Spread", true
	case 2, 3, 4:
		return "Weigh", x.weigh(t, weights(c, w, h))
	case 5:
		toW, toH := max(w+c.IntN(4)-2, 1), max(h+c.IntN(4)-2, 1)
		if toW*toH > mostPlaces {
			toW, toH = max(w/2, 1), max(h/2, 1)
		}
		return "Cut", x.cut(t, c.IntN(3)-1, c.IntN(3)-1, toW, toH)
	case 6:
		return "Split", 4*w*h <= mostPlaces && x.split()
	}
	return "Join", x.join()
}

// firstGrid is a grid that is right, its places believed by chance.
func firstGrid(c *rand.Rand, w, h int) api.Grid {
	g, _ := grid.Even(w, h, 4000, -4000, 256)
	for i := range g.P {
		g.P[i] = c.Int64N(g.P[i]+1) >> c.IntN(12)
	}
	g.P[0]++
	g, _ = grid.Normal(g)
	return g
}

// 18.4: the bound holds behind each of many steps, one behind the other, of grids of many sides.
func TestBound(t *testing.T) {
	c := rand.New(rand.NewPCG(18, 3))
	did := map[string]int{}
	apart, told := 0, 0
	for range 300 {
		x := begun(t, firstGrid(c, c.IntN(8)+1, c.IntN(8)+1))
		for steps := 0; steps < 16; {
			if what, ok := x.anyStep(t, c, 256); ok {
				steps++
				did[what]++
				x.holds(t, what, steps)
			}
		}
		apart += x.apart
		told += x.told
	}
	for _, what := range []string{"Spread", "Weigh", "Cut", "Split", "Join"} {
		if did[what] < 150 {
			t.Error("too few of", what, did[what])
		}
	}
	if apart < 1500 || told < 1500 {
		t.Error("too little was asked:", apart, told)
	}
}

// 18.4: the bound holds of a navigator's steps, again and again, and is of use there.
func TestBoundOfATrack(t *testing.T) {
	c := rand.New(rand.NewPCG(18, 4))
	x := begun(t, firstGrid(c, 8, 8))
	for n := range 30 {
		x.spread(t, 40)
		x.holds(t, "Spread", 2*n+1)
		l := make([]int64, 64)
		for i := range l {
			l[i] = 20000 + c.Int64N(scale-20000)
		}
		x.weigh(t, l)
		x.holds(t, "Weigh", 2*n+2)
		if n < 4 && x.k.Over(12) {
			t.Error("a bound that is of no use", n, x.k)
		}
	}
}

// 18.4: the bound holds of grids that are as great as may be, and of those of one place.
func TestBoundOfTheGreatest(t *testing.T) {
	c := rand.New(rand.NewPCG(18, 5))
	x := begun(t, firstGrid(c, 32, 32))
	x.split()
	x.holds(t, "Split", 1)
	x.spread(t, 85)
	x.holds(t, "Spread", 2)
	x.weigh(t, weights(c, 64, 64))
	x.holds(t, "Weigh", 3)
	x.cut(t, -3, 2, 64, 64)
	x.holds(t, "Cut", 4)
	x.join()
	x.holds(t, "Join", 5)
	x.cut(t, 4, 5, 1, 1)
	x.holds(t, "Cut to one place", 6)
	x.spread(t, 85)
	x.holds(t, "Spread of one place", 7)
	x.split()
	x.holds(t, "Split of one place", 8)
}

// 18.4: what little is believed is made much of, so that a bound that isn't scaled would be too little.
func TestBoundGrows(t *testing.T) {
	g, _ := grid.Even(2, 1, 0, 0, 64)
	x := begun(t, g)
	x.weigh(t, []int64{scale, 3})
	x.holds(t, "Weigh", 1)
	before := x.k.B
	x.weigh(t, []int64{3, scale})
	x.holds(t, "Weigh back", 2)
	if !exact.Over(x.g, x.f, before+plainCost(2)) {
		t.Error("the bound was not in need of being scaled")
	}
	y := begun(t, g)
	y.weigh(t, []int64{scale, 3})
	y.split()
	y.weigh(t, []int64{scale, scale, 3, 5, scale, scale, 7, 11})
	y.holds(t, "Weigh of more", 3)
	before = y.k.B
	y.cut(t, 2, 0, 2, 2)
	y.holds(t, "Cut", 4)
	if !exact.Over(y.g, y.f, before+plainCost(4)) {
		t.Error("the bound was not in need of being scaled")
	}
}

// 18.4: of a grid of which nothing is left the book is One, and nothing is further away.
func TestBoundOfNothing(t *testing.T) {
	g, _ := grid.Even(2, 2, 0, 0, 64)
	f := exact.From(g)
	none, _ := grid.Cut(g, 5, 5, 2, 2)
	k := ledger.Book{}.Cut(4, grid.Sum(g), grid.Sum(none))
	if k.B != one || exact.Over(none, f.Cut(5, 5, 2, 2), k.B) {
		t.Error("cut to nothing:", k)
	}
	same, z, most, code := grid.Weigh(g, []int64{0, 0, 0, 0})
	k = ledger.Book{}.Weigh(4, most, grid.Sum(g), z)
	if code != api.ErrNone || k.B != one || exact.Over(same, f.Weigh([]int64{0, 0, 0, 0}), k.B) {
		t.Error("weighed to nothing:", k)
	}
	if !nat.Nat.Zero(f.Weigh(nil).Sum()) {
		t.Error("something is left")
	}
}

// P0, R3: whatever is asked ends, answers a bound, and leaves the book as it was.
func TestWrong(t *testing.T) {
	numbers := []int64{lo, lo + 1, -1 << 40, -1 << 32, -1, 0, 1, 1 << 32, one + 1, 1 << 62, hi - 1, hi}
	counts := []int{math.MinInt, -1 << 32, -1, 0, 4096, 4097, 1 << 28, 1<<28 + 1, 1 << 30, 1 << 32, 1<<32 + 1, math.MaxInt}
	zs := []wide.Int{{}, wide.Of(1), wide.Of(-1), {Hi: lo}, {Hi: hi, Lo: math.MaxUint64}, {Lo: 1 << 63}}
	isBound := func(what string, b int64) {
		if b < 0 || b > one {
			t.Error(what, "is no bound:", b)
		}
	}
	for _, n := range counts {
		isBound("Cost", ledger.Cost(n))
		for _, b := range numbers {
			k := ledger.Book{B: b, Steps: 9}
			isBound("Spread", k.Spread(n).B)
			isBound("Split", k.Split(n).B)
			isBound("Join", k.Join(n).B)
			k.Over(n)
			for _, s := range numbers {
				isBound("Cut", k.Cut(n, s, b).B)
				for _, z := range zs {
					isBound("Weigh", k.Weigh(n, b, s, z).B)
					isBound("Scaled", ledger.Scaled(b, s, b, z))
					isBound("Scaled", ledger.Scaled(one, b, s, z))
				}
			}
			is(t, "as it was", k, b, 9)
		}
	}
}

// What isn't promised of tells no bound that would be too little: below 0 is as 0, and what is more than may be leads to One.
func TestBeyond(t *testing.T) {
	for _, c := range []struct {
		what      string
		got, want int64
	}{
		{"places below 0", ledger.Cost(-1), 0},
		{"more places than may be", ledger.Cost(4097), one},
		{"as many as are 64 by 32 bits", ledger.Cost(1<<32 + 64), one},
		{"most above api.Scale", ledger.Scaled(1, scale+1, 1, wide.Of(hi)), one},
		{"s above api.Whole", ledger.Scaled(1, 1, whole+1, wide.Of(hi)), one},
		{"most below 0", ledger.Scaled(1, -1, 1, wide.Of(1)), 0},
		{"s below 0", ledger.Scaled(1, 1, -1, wide.Of(1)), 0},
		{"both below 0", ledger.Scaled(1, -5, -5, wide.Of(1)), 0},
		{"a bound below 0", ledger.Scaled(-5, 1, 1, wide.Of(1)), 0},
		{"a bound and most below 0", ledger.Scaled(-5, -5, 1, wide.Of(1)), 0},
		{"a bound above One", ledger.Scaled(hi, scale, whole, wide.Of(1<<46)), one},
		{"a bound above One, times what wraps", ledger.Scaled(1<<48, scale, 1, wide.Of(1<<20)), 1 << 36},
		{"a book above One", ledger.Book{B: hi}.Join(4096).B, one},
		{"a book far above One", ledger.Book{B: hi}.Spread(4096).B, one},
		{"a book below 0", ledger.Book{B: -1 << 20}.Join(64).B, 65537},
		{"a book far below 0", ledger.Book{B: lo}.Split(64).B, 2 * 65537},
	} {
		if c.got != c.want {
			t.Error(c.what, c.got, "not", c.want)
		}
	}
}
