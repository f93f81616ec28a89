package root_test

import (
	"math"
	"math/big"
	"math/rand/v2"
	"testing"

	"theodolite/root"
	"theodolite/wide"
)

// greatest is the greatest number that an Int is, and least the least one.
var (
	greatest = wide.Int{Hi: math.MaxInt64, Lo: math.MaxUint64}
	least    = wide.Int{Hi: math.MinInt64, Lo: 0}
)

// greatestRoot is what the root of greatest is, rounded down; its square is far above 2^126.
const greatestRoot = 13043817825332782212

// raised is r to the power of a degree.
func raised(r uint64, degree int) *big.Int {
	return new(big.Int).Exp(new(big.Int).SetUint64(r), big.NewInt(int64(degree)), nil)
}

// raisedNext is what raised is of r and 1, which may have no room in 64 bits.
func raisedNext(r uint64, degree int) *big.Int {
	next := new(big.Int).Add(new(big.Int).SetUint64(r), big.NewInt(1))
	return next.Exp(next, big.NewInt(int64(degree)), nil)
}

// isRoot tells whether r is the greatest number whose power of a degree is no more than x.
func isRoot(r uint64, x *big.Int, degree int) bool {
	return raised(r, degree).Cmp(x) <= 0 && raisedNext(r, degree).Cmp(x) > 0
}

// plain is what an Int stands for.
func plain(a wide.Int) *big.Int {
	x := new(big.Int).Lsh(big.NewInt(a.Hi), 64)
	return x.Add(x, new(big.Int).SetUint64(a.Lo))
}

// packed is a number as an Int; false: it has no room there.
func packed(x *big.Int) (wide.Int, bool) {
	if x.Cmp(plain(least)) < 0 || x.Cmp(plain(greatest)) > 0 {
		return wide.Int{}, false
	}
	hi := new(big.Int).Rsh(x, 64)
	lo := new(big.Int).Sub(x, new(big.Int).Lsh(hi, 64))
	return wide.Int{Hi: hi.Int64(), Lo: lo.Uint64()}, true
}

// sides is numbers whose squares have room in 64 bits, at and about which something may change.
func sides() []uint64 {
	all := []uint64{0, 1, 2, 3, 4, 5, 9, 10, 99, 100, 46340, 46341, 65535, 65536, 65537}
	for n := 17; n < 32; n++ {
		all = append(all, 1<<n-1, 1<<n, 1<<n+1)
	}
	return append(all, 1<<32-2, 1<<32-1)
}

// about is numbers of 64 bits: the ends, powers of two, squares, what lies halfway to the next square, and what is one less and one more than each.
func about() []uint64 {
	all := []uint64{0, 1, math.MaxUint64 - 1, math.MaxUint64}
	for n := range 64 {
		all = append(all, 1<<n-1, 1<<n, 1<<n+1)
	}
	for _, r := range sides() {
		for _, x := range []uint64{r * r, r*r + r, r*r + 2*r} {
			all = append(all, x-1, x, x+1)
		}
	}
	return all
}

// anyNumber is a number of up to 64 bits that looks like any.
func anyNumber(c *rand.Rand) uint64 { return c.Uint64() >> c.IntN(64) }

// 5.1: how many bits a number has; 0 of 0.
func TestBits(t *testing.T) {
	for _, c := range []struct {
		x    uint64
		want int
	}{
		{0, 0}, {1, 1}, {2, 2}, {3, 2}, {4, 3}, {5, 3}, {7, 3}, {8, 4}, {255, 8}, {256, 9},
		{1<<32 - 1, 32}, {1 << 32, 33}, {1<<63 - 1, 63}, {1 << 63, 64}, {math.MaxUint64, 64},
	} {
		if got := root.Bits(c.x); got != c.want {
			t.Error(c.x, got)
		}
	}
	for _, x := range about() {
		if got := root.Bits(x); got != new(big.Int).SetUint64(x).BitLen() {
			t.Error(x, got)
		}
	}
}

// 5.1: the chapter's example, and others, by Floor, Ceil and Near.
func TestRootsKnown(t *testing.T) {
	for _, c := range []struct {
		x    uint64
		want [3]uint64
	}{
		{0, [3]uint64{0, 0, 0}},
		{1, [3]uint64{1, 1, 1}},
		{2, [3]uint64{1, 2, 1}},
		{3, [3]uint64{1, 2, 2}},
		{4, [3]uint64{2, 2, 2}},
		{5, [3]uint64{2, 3, 2}},
		{6, [3]uint64{2, 3, 2}},
		{7, [3]uint64{2, 3, 3}},
		{8, [3]uint64{2, 3, 3}},
		{9, [3]uint64{3, 3, 3}},
		{99, [3]uint64{9, 10, 10}},
		{100, [3]uint64{10, 10, 10}},
		{101, [3]uint64{10, 11, 10}},
		{110, [3]uint64{10, 11, 10}},
		{111, [3]uint64{10, 11, 11}},
		{1<<62 - 1, [3]uint64{1<<31 - 1, 1 << 31, 1 << 31}},
		{1 << 62, [3]uint64{1 << 31, 1 << 31, 1 << 31}},
		{1<<62 + 1, [3]uint64{1 << 31, 1<<31 + 1, 1 << 31}},
		{1<<64 - 1<<33, [3]uint64{1<<32 - 2, 1<<32 - 1, 1<<32 - 1}},
		{1<<64 - 1<<33 + 1, [3]uint64{1<<32 - 1, 1<<32 - 1, 1<<32 - 1}},
		{1<<64 - 1<<32, [3]uint64{1<<32 - 1, 1 << 32, 1<<32 - 1}},
		{1<<64 - 1<<32 + 1, [3]uint64{1<<32 - 1, 1 << 32, 1 << 32}},
		{math.MaxUint64, [3]uint64{1<<32 - 1, 1 << 32, 1 << 32}},
	} {
		if got := [3]uint64{root.Floor(c.x), root.Ceil(c.x), root.Near(c.x)}; got != c.want {
			t.Error(c.x, got)
		}
	}
}

// rooted fails if Floor, Ceil or Near is not what 5.1 says.
func rooted(t *testing.T, x uint64) {
	t.Helper()
	r, up, near := root.Floor(x), root.Ceil(x), root.Near(x)
	if !isRoot(r, new(big.Int).SetUint64(x), 2) {
		t.Error("Floor", x, r)
	}
	if !isCeil(up, x) {
		t.Error("Ceil", x, up)
	}
	want := r
	if x-r*r > r {
		want++
	}
	if near != want {
		t.Error("Near", x, near)
	}
}

// isCeil tells whether r is the least number whose square is no less than x.
func isCeil(r, x uint64) bool {
	b := new(big.Int).SetUint64(x)
	return raised(r, 2).Cmp(b) >= 0 && (r == 0 || raised(r-1, 2).Cmp(b) < 0)
}

// 5.1: all small numbers.
func TestRootsSmall(t *testing.T) {
	for x := range uint64(5000) {
		rooted(t, x)
	}
}

// 5.1: numbers about which something may change, and such as look like any.
func TestRootsAny(t *testing.T) {
	for _, x := range about() {
		rooted(t, x)
	}
	c := rand.New(rand.NewPCG(5, 1))
	for range 20000 {
		rooted(t, anyNumber(c))
		r := c.Uint64() >> (32 + c.IntN(32))
		rooted(t, r*r+r*c.Uint64N(3)+c.Uint64N(3))
	}
}

// 5.1: where x less r times r is r, Near is r; where it is one more, and where the next square is near, it is the next one.
func TestNear(t *testing.T) {
	for _, r := range sides() {
		if got := root.Near(r*r + r); got != r {
			t.Error(r, "and just half", got)
		}
		if r == 0 {
			continue
		}
		if got := root.Near(r*r + r + 1); got != r+1 {
			t.Error(r, "and more than half", got)
		}
		if got := root.Near(r*r + 2*r); got != r+1 {
			t.Error(r, "ahead of the next square", got)
		}
	}
}

// widely fails if Wide is not what 5.2 says.
func widely(t *testing.T, a wide.Int) {
	t.Helper()
	r := root.Wide(a)
	if a.Sign() < 0 {
		if r != 0 {
			t.Error(a, r)
		}
		return
	}
	if !isRoot(r, plain(a), 2) {
		t.Error(a, r)
	}
}

// 5.2: numbers of 128 bits of which the root is known, and those below 0.
func TestWideKnown(t *testing.T) {
	for _, c := range []struct {
		a    wide.Int
		want uint64
	}{
		{wide.Int{}, 0},
		{wide.Of(1), 1},
		{wide.Of(3), 1},
		{wide.Of(4), 2},
		{wide.Of(8), 2},
		{wide.Of(math.MaxInt64), 3037000499},
		{wide.Int{Lo: 1 << 63}, 3037000499},
		{wide.Int{Lo: math.MaxUint64}, 1<<32 - 1},
		{wide.Int{Hi: 1}, 1 << 32},
		{wide.Int{Hi: 1, Lo: 1 << 33}, 1 << 32},
		{wide.Int{Hi: 1, Lo: 1<<33 + 1}, 1<<32 + 1},
		{wide.Int{Hi: 1<<60 - 1, Lo: math.MaxUint64}, 1<<62 - 1},
		{wide.Int{Hi: 1 << 60}, 1 << 62},
		{wide.Int{Hi: 1<<62 - 1, Lo: math.MaxUint64}, 1<<63 - 1},
		{wide.Int{Hi: 1 << 62}, 1 << 63},
		{wide.Int{Hi: 1<<62 + 1}, 1 << 63},
		{wide.Int{Hi: 1<<62 + 1, Lo: 1}, 1<<63 + 1},
		{greatest, greatestRoot},
		{wide.Of(-1), 0},
		{wide.Of(-4), 0},
		{wide.Of(math.MinInt64), 0},
		{wide.Int{Hi: -1}, 0},
		{wide.Int{Hi: math.MinInt64, Lo: math.MaxUint64}, 0},
		{least, 0},
	} {
		if got := root.Wide(c.a); got != c.want {
			t.Error(c.a, got)
		}
		widely(t, c.a)
	}
}

// 5.2: squares of up to 127 bits, what is one less and one more, and those far between two squares.
func TestWideSquares(t *testing.T) {
	about := func(r uint64) {
		t.Helper()
		for _, more := range []int64{-1, 0, 1} {
			for _, x := range []*big.Int{raised(r, 2), new(big.Int).Add(raised(r, 2), new(big.Int).SetUint64(r))} {
				if a, ok := packed(x.Add(x, big.NewInt(more))); ok {
					widely(t, a)
				}
			}
		}
	}
	for n := range 64 {
		about(1<<n - 1)
		about(1 << n)
		about(1<<n + 1)
	}
	for i := range uint64(5) {
		about(greatestRoot - i)
	}
	c := rand.New(rand.NewPCG(5, 2))
	for range 10000 {
		about(anyNumber(c))
	}
}

// 5.2: numbers that look like any, of any size and sign; of those that have room in 64 bits the root is Floor.
func TestWideAny(t *testing.T) {
	c := rand.New(rand.NewPCG(5, 3))
	for range 20000 {
		widely(t, wide.Int{Hi: int64(c.Uint64()) >> c.IntN(64), Lo: anyNumber(c)})
		x := anyNumber(c)
		if got := root.Wide(wide.Int{Lo: x}); got != root.Floor(x) {
			t.Error(x, got)
		}
	}
}

// hypot fails if Hypot is not what 5.2 says, each sign and either order being as good.
func hypot(t *testing.T, a, b int64) {
	t.Helper()
	x, y := big.NewInt(a), big.NewInt(b)
	sum := new(big.Int).Add(x.Mul(x, x), y.Mul(y, y))
	_, room := packed(sum)
	for _, p := range [][2]int64{{a, b}, {-a, b}, {a, -b}, {-a, -b}, {b, a}, {-b, a}, {b, -a}, {-b, -a}} {
		r, ok := root.Hypot(p[0], p[1])
		if ok != room || ok && !isRoot(r, sum, 2) || !ok && r != 0 {
			t.Error(p, r, ok)
		}
	}
}

// 5.2: the chapter's example, each sign, either order, and squares that together have just room, and just none.
func TestHypotKnown(t *testing.T) {
	const lo, hi = math.MinInt64, math.MaxInt64
	for _, c := range []struct {
		a, b int64
		want uint64
		ok   bool
	}{
		{0, 0, 0, true},
		{3, -4, 5, true},
		{3, 4, 5, true},
		{-3, 4, 5, true},
		{-3, -4, 5, true},
		{-4, 3, 5, true},
		{1, 1, 1, true},
		{1, -2, 2, true},
		{5, -12, 13, true},
		{0, -7, 7, true},
		{7, 0, 7, true},
		{2, 3, 3, true},
		{1 << 32, 1 << 32, 6074000999, true},
		{3 << 60, -4 << 60, 5 << 60, true},
		{0, hi, hi, true},
		{0, lo, 1 << 63, true},
		{lo, 1, 1 << 63, true},
		{hi, hi, greatestRoot - 2, true},
		{hi, -hi, greatestRoot - 2, true},
		{lo, hi, greatestRoot - 1, true},
		{hi, lo, greatestRoot - 1, true},
		{lo, -hi, greatestRoot - 1, true},
		{lo, lo, 0, false},
	} {
		if r, ok := root.Hypot(c.a, c.b); r != c.want || ok != c.ok {
			t.Error(c.a, c.b, r, ok)
		}
	}
}

// 5.2: numbers at and about the ends, and such as look like any.
func TestHypotAny(t *testing.T) {
	all := []int64{math.MinInt64, math.MinInt64 + 1, math.MinInt64 + 2}
	for n := range 63 {
		all = append(all, 1<<n-1, 1<<n, 1<<n+1)
	}
	for _, a := range all {
		for _, b := range all {
			hypot(t, a, b)
		}
	}
	c := rand.New(rand.NewPCG(5, 4))
	for range 5000 {
		hypot(t, int64(anyNumber(c)), int64(anyNumber(c)))
	}
}

// 5.3: powers of which the root is known: degrees of 0 and below, of 1, of 2, of 63, 64, and far above.
func TestPowerKnown(t *testing.T) {
	for _, c := range []struct {
		x      uint64
		degree int
		want   uint64
	}{
		{0, 1, 0}, {0, 2, 0}, {0, 63, 0}, {0, 64, 0}, {0, math.MaxInt, 0},
		{1, 1, 1}, {1, 2, 1}, {1, 63, 1}, {1, 64, 1}, {1, math.MaxInt, 1},
		{7, 0, 0}, {7, -1, 0}, {7, -2, 0}, {7, -64, 0}, {7, math.MinInt, 0},
		{0, 0, 0}, {1, 0, 0}, {0, -1, 0}, {1, -1, 0},
		{math.MaxUint64, 0, 0}, {math.MaxUint64, -1, 0}, {math.MaxUint64, math.MinInt, 0},
		{7, 1, 7}, {1 << 63, 1, 1 << 63}, {math.MaxUint64 - 1, 1, math.MaxUint64 - 1}, {math.MaxUint64, 1, math.MaxUint64},
		{8, 2, 2}, {9, 2, 3}, {math.MaxUint64, 2, 1<<32 - 1},
		{7, 3, 1}, {8, 3, 2}, {26, 3, 2}, {27, 3, 3}, {999, 3, 9}, {1000, 3, 10}, {1001, 3, 10},
		{math.MaxUint64, 3, 2642245}, {math.MaxUint64, 4, 65535}, {math.MaxUint64, 5, 7131},
		{12157665459056928800, 40, 2}, {12157665459056928801, 40, 3}, {math.MaxUint64, 40, 3}, {math.MaxUint64, 41, 2},
		{1<<62 - 1, 62, 1}, {1 << 62, 62, 2},
		{1<<63 - 1, 63, 1}, {1 << 63, 63, 2}, {1<<63 + 1, 63, 2}, {math.MaxUint64, 63, 2},
		{1 << 63, 64, 1}, {math.MaxUint64, 64, 1}, {math.MaxUint64, 65, 1}, {math.MaxUint64, 128, 1},
		{math.MaxUint64, 1 << 30, 1}, {math.MaxUint64, math.MaxInt - 1, 1}, {math.MaxUint64, math.MaxInt, 1},
		{2, math.MaxInt, 1}, {2, 64, 1}, {3, 2, 1}, {2, 2, 1},
	} {
		if got := root.Power(c.x, c.degree); got != c.want {
			t.Error(c.x, c.degree, got)
		}
	}
}

// powered fails if Power is not what 5.3 says; degree is from 1 on, and not far above 64.
func powered(t *testing.T, x uint64, degree int) {
	t.Helper()
	if got := root.Power(x, degree); !isRoot(got, new(big.Int).SetUint64(x), degree) {
		t.Error(x, degree, got)
	}
}

// 5.3: powers of each degree, and what is one less and one more.
func TestPowerPowers(t *testing.T) {
	for degree := 1; degree <= 66; degree++ {
		for r := uint64(0); r < 300; r++ {
			p := raised(r, degree)
			if !p.IsUint64() {
				break
			}
			x := p.Uint64()
			if got := root.Power(x, degree); got != r {
				t.Error(x, degree, got)
			}
			if r > 0 {
				if got := root.Power(x-1, degree); got != r-1 {
					t.Error(x-1, degree, got)
				}
			}
			powered(t, x+1, degree)
		}
	}
}

// 5.3: the greatest power of each degree that has room, and what lies about it.
func TestPowerEnds(t *testing.T) {
	for degree := 1; degree <= 66; degree++ {
		powered(t, math.MaxUint64, degree)
		powered(t, math.MaxUint64-1, degree)
		last := raised(root.Power(math.MaxUint64, degree), degree).Uint64()
		powered(t, last-1, degree)
		powered(t, last, degree)
		if last < math.MaxUint64 {
			powered(t, last+1, degree)
		}
	}
}

// 5.3: numbers that look like any; of degree 2 it is Floor.
func TestPowerAny(t *testing.T) {
	c := rand.New(rand.NewPCG(5, 5))
	for range 20000 {
		x := anyNumber(c)
		powered(t, x, 1+c.IntN(70))
		powered(t, x, 1+c.IntN(5))
		if got := root.Power(x, 2); got != root.Floor(x) {
			t.Error(x, got)
		}
		if got, want := root.Power(x, 71+c.IntN(math.MaxInt-71)), min(x, 1); got != want {
			t.Error(x, got)
		}
		if got := root.Power(x, -c.IntN(math.MaxInt)); got != 0 {
			t.Error(x, got)
		}
	}
}

// 5.4: divisors that are known: of 0 and another one, of 0 and 0, of the same twice, and of two that have none but 1.
func TestGcdKnown(t *testing.T) {
	const end = math.MaxUint64
	for _, c := range []struct{ a, b, want uint64 }{
		{0, 0, 0},
		{0, 1, 1}, {0, 7, 7}, {0, 1 << 63, 1 << 63}, {0, end, end},
		{1, 1, 1}, {7, 7, 7}, {1 << 63, 1 << 63, 1 << 63}, {end, end, end},
		{1, 7, 1}, {1, end, 1}, {8, 9, 1}, {13, 21, 1}, {end, end - 1, 1}, {1 << 63, end, 1}, {1<<61 - 1, 1<<31 - 1, 1},
		{84, 36, 12}, {6, 12, 6}, {1 << 63, 1 << 40, 1 << 40}, {1 << 63, 3 << 20, 1 << 20},
		{end, 1<<32 - 1, 1<<32 - 1}, {end, 1<<32 + 1, 1<<32 + 1}, {end, 3 << 40, 3},
		{12200160415121876738, 7540113804746346429, 1}, // numbers of Fibonacci, that take the most steps
	} {
		if got := root.Gcd(c.a, c.b); got != c.want {
			t.Error(c.a, c.b, got)
		}
		if got := root.Gcd(c.b, c.a); got != c.want {
			t.Error(c.b, c.a, got)
		}
	}
}

// 5.4: of all small numbers the greatest one that divides both.
func TestGcdSmall(t *testing.T) {
	for a := range uint64(80) {
		for b := range uint64(80) {
			var want uint64
			for d := uint64(1); d <= max(a, b); d++ {
				if a%d == 0 && b%d == 0 {
					want = d
				}
			}
			if got := root.Gcd(a, b); got != want {
				t.Error(a, b, got)
			}
		}
	}
}

// 5.4: numbers that look like any, with and without much in common.
func TestGcdAny(t *testing.T) {
	c := rand.New(rand.NewPCG(5, 6))
	same := func(a, b uint64) {
		t.Helper()
		want := new(big.Int).GCD(nil, nil, new(big.Int).SetUint64(a), new(big.Int).SetUint64(b))
		if got := root.Gcd(a, b); got != want.Uint64() {
			t.Error(a, b, got)
		}
	}
	for range 20000 {
		same(anyNumber(c), anyNumber(c))
		d := c.Uint64() >> (32 + c.IntN(32))
		same(d*(c.Uint64()>>(32+c.IntN(32))), d*(c.Uint64()>>(32+c.IntN(32))))
	}
}
