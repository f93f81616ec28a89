package expo_test

import (
	"math"
	"math/big"
	"math/rand/v2"
	"slices"
	"testing"

	"theodolite/api"
	"theodolite/expo"
)

const (
	one   = expo.One
	hi    = math.MaxInt64
	lo    = math.MinInt64
	above = 6521908912666391107 // the least number whose square, divided by 2^62, is 2^63 or more
)

// power is 2 to the power of n.
func power(n uint) *big.Int { return new(big.Int).Lsh(big.NewInt(1), n) }

// plainLog is 6.1's Log of a number from 1 on, word by word.
func plainLog(x uint64) int64 {
	n := int64(new(big.Int).SetUint64(x).BitLen() - 1)
	m := new(big.Int).Lsh(new(big.Int).SetUint64(x), 62)
	m.Quo(m, power(uint(n)))
	for range 16 {
		m.Mul(m, m).Quo(m, power(62))
		n = 2 * n
		if m.Cmp(power(63)) >= 0 {
			m.Quo(m, big.NewInt(2))
			n = n + 1
		}
	}
	return n
}

// plainRoots is the roots of 1/2, one behind the other, as 6.2 says.
var plainRoots = func() [16]*big.Int {
	var all [16]*big.Int
	h := power(61)
	for i := range all {
		h = new(big.Int).Sqrt(new(big.Int).Mul(h, power(62)))
		all[i] = h
	}
	return all
}()

// plainExp is 6.2's Exp of an exponent from 0 on, word by word.
func plainExp(x int64) uint64 {
	whole := x / one
	if whole*one > 40*one {
		return 0
	}
	m := power(62)
	for i, h := range plainRoots {
		if x%one/(1<<(15-i))%2 == 1 {
			m.Mul(m, h).Quo(m, power(62))
		}
	}
	m.Quo(m, power(30))
	for range whole {
		m.Quo(m, big.NewInt(2))
	}
	return m.Uint64()
}

// plainSum is 6.3's LogSum, word by word.
func plainSum(a, b int64) int64 {
	greater, lesser := max(a, b), min(a, b)
	apart := new(big.Int).Sub(big.NewInt(greater), big.NewInt(lesser))
	if apart.Cmp(big.NewInt(hi)) > 0 {
		return greater
	}
	sum := big.NewInt(greater)
	sum.Add(sum, big.NewInt(plainLog(1<<32+plainExp(apart.Int64()))))
	sum.Sub(sum, big.NewInt(32*one))
	if sum.Cmp(big.NewInt(hi)) > 0 {
		return hi
	}
	return sum.Int64()
}

// edges is 0, the ends, powers of two, and what is one less and one more than each.
func edges() []uint64 {
	all := []uint64{0, math.MaxUint64 - 1, math.MaxUint64}
	for n := range 64 {
		all = append(all, 1<<n-1, 1<<n, 1<<n+1)
	}
	slices.Sort(all)
	return slices.Compact(all)
}

// anyNumber is a number of up to 64 bits that looks like any.
func anyNumber(c *rand.Rand) uint64 { return c.Uint64() >> c.IntN(64) }

// anyLog is a number with a sign, of any size, that looks like any.
func anyLog(c *rand.Rand) int64 { return int64(c.Uint64()) >> c.IntN(64) }

// logged fails if Log is not what 6.1 says.
func logged(t *testing.T, x uint64) {
	t.Helper()
	want, wantCode := int64(0), api.ErrRange
	if x != 0 {
		want, wantCode = plainLog(x), api.OK
	}
	if l, code := expo.Log(x); l != want || code != wantCode {
		t.Error("Log of", x, "is", l, code, "not", want, wantCode)
	}
}

// 6.1: 1 has as many bits behind the point as the chapter says.
func TestOne(t *testing.T) {
	if expo.Frac != 16 || expo.One != 65536 {
		t.Error(expo.Frac, expo.One)
	}
}

// 6.1: the chapter's examples, others, and 0, which has none.
func TestLogKnown(t *testing.T) {
	for _, c := range []struct {
		x    uint64
		want int64
		code api.Code
	}{
		{0, 0, api.ErrRange},
		{1, 0, api.OK},
		{2, one, api.OK},
		{3, 103872, api.OK},
		{4, 2 * one, api.OK},
		{5, 152169, api.OK},
		{6, 169408, api.OK},
		{7, 183982, api.OK},
		{8, 3 * one, api.OK},
		{9, 207744, api.OK},
		{10, 217705, api.OK},
		{1000, 653117, api.OK},
		{65535, 1048574, api.OK},
		{65536, 16 * one, api.OK},
		{65537, 1048577, api.OK},
		{1<<32 - 1, 32*one - 1, api.OK},
		{1 << 32, 32 * one, api.OK},
		{1<<32 + 1, 32 * one, api.OK},
		{1<<62 - 1, 62*one - 1, api.OK},
		{1 << 62, 62 * one, api.OK},
		{1<<62 + 1, 62 * one, api.OK},
		// The mantissa's square is just below 2, and just above.
		{above - 1, 62*one + one/2 - 1, api.OK},
		{above, 62*one + one/2, api.OK},
		{1<<63 - 1, 63*one - 1, api.OK},
		{1 << 63, 63 * one, api.OK},
		{1<<63 + 1, 63 * one, api.OK},
		// The lowest bit has no room: what is one more has the same mantissa.
		{2*above - 1, 63*one + one/2 - 1, api.OK},
		{2 * above, 63*one + one/2, api.OK},
		{2*above + 1, 63*one + one/2, api.OK},
		{math.MaxUint64 - 1, 64*one - 1, api.OK},
		{math.MaxUint64, 64*one - 1, api.OK},
	} {
		if l, code := expo.Log(c.x); l != c.want || code != c.code {
			t.Error(c.x, l, code)
		}
	}
}

// 6.1: all small numbers, those about which something may change, and such as look like any.
func TestLogAny(t *testing.T) {
	for x := range uint64(3000) {
		logged(t, x)
	}
	for _, x := range edges() {
		logged(t, x)
	}
	c := rand.New(rand.NewPCG(6, 1))
	for range 5000 {
		logged(t, anyNumber(c))
		logged(t, c.Uint64()|1<<63)
	}
}

// firstWith is the least number from 2^62 on, and below 2^63, of which the logarithm has at least these bits behind the point.
func firstWith(bits int64) uint64 {
	from, to := uint64(1)<<62, uint64(1)<<63
	for from < to {
		mid := from + (to-from)/2
		if plainLog(mid) >= 62*one+bits {
			to = mid
		} else {
			from = mid + 1
		}
	}
	return from
}

// 6.1: where a logarithm becomes the next one, each mantissa's last bit tells, so that nothing but the chapter's steps makes it the same; and what is rounded off where the lowest bit has no room.
func TestLogSteps(t *testing.T) {
	chance := rand.New(rand.NewPCG(6, 2))
	all := []int64{1, 2, 3, one/2 - 1, one / 2, one/2 + 1, one - 2, one - 1}
	for range 60 {
		all = append(all, 1+chance.Int64N(one-1))
	}
	for _, bits := range all {
		x := firstWith(bits)
		for _, c := range []struct {
			x    uint64
			want int64
		}{
			{x - 1, 62*one + bits - 1},
			{x, 62*one + bits},
			{2*x - 2, 63*one + bits - 1},
			{2*x - 1, 63*one + bits - 1},
			{2 * x, 63*one + bits},
			{2*x + 1, 63*one + bits},
		} {
			if l, code := expo.Log(c.x); l != c.want || code != api.OK {
				t.Error(c.x, l, code, c.want)
			}
		}
	}
}

// 6.1: a logarithm is the real one, without what has no room behind the point, or one less where that is near.
func TestLogReal(t *testing.T) {
	c := rand.New(rand.NewPCG(6, 3))
	for range 20000 {
		x := anyNumber(c) | 1
		l, _ := expo.Log(x)
		if d := math.Log2(float64(x))*one - float64(l); d < -1e-6 || d > 1+1e-6 {
			t.Error(x, l, d)
		}
	}
}

// raised fails if Exp is not what 6.2 says.
func raised(t *testing.T, x int64) {
	t.Helper()
	want, wantCode := uint64(0), api.ErrRange
	if x >= 0 {
		want, wantCode = plainExp(x), api.OK
	}
	if e, code := expo.Exp(x); e != want || code != wantCode {
		t.Error("Exp of", x, "is", e, code, "not", want, wantCode)
	}
}

// 6.2: the chapter's example, and others: below 0, at 0, at One, about 32, 40 and 41 times One, and the ends.
func TestExpKnown(t *testing.T) {
	for _, c := range []struct {
		x    int64
		want uint64
		code api.Code
	}{
		{lo, 0, api.ErrRange},
		{-41 * one, 0, api.ErrRange},
		{-one, 0, api.ErrRange},
		{-1, 0, api.ErrRange},
		{0, 1 << 32, api.OK},
		{1, 4294921870, api.OK},
		{2, 4294876444, api.OK},
		{3, 4294831019, api.OK},
		{one / 2, 3037000499, api.OK},
		{one - 1, 2147506361, api.OK},
		{one, 1 << 31, api.OK},
		{one + 1, 2147460935, api.OK},
		{2 * one, 1 << 30, api.OK},
		{31 * one, 2, api.OK},
		{31*one + 1, 1, api.OK},
		{32*one - 1, 1, api.OK},
		{32 * one, 1, api.OK},
		{32*one + 1, 0, api.OK},
		{33 * one, 0, api.OK},
		{40 * one, 0, api.OK},
		{40*one + 1, 0, api.OK},
		{41*one - 1, 0, api.OK},
		{41 * one, 0, api.OK},
		{64 * one, 0, api.OK},
		{hi - one, 0, api.OK},
		{hi, 0, api.OK},
	} {
		if e, code := expo.Exp(c.x); e != c.want || code != c.code {
			t.Error(c.x, e, code)
		}
	}
}

// 6.2: each of the lowest 16 bits alone tells one root of a half.
func TestExpBits(t *testing.T) {
	for i, want := range []uint64{
		4294921870, 4294876444, 4294785595, 4294603902, 4294240539, 4293513906, 4292061009, 4289156690,
		4283353945, 4271771996, 4248701964, 4202935003, 4112874773, 3938502375, 3611622602, 3037000499,
	} {
		if e, code := expo.Exp(1 << i); e != want || code != api.OK {
			t.Error(i, e, code)
		}
		for n := range int64(43) {
			raised(t, n*one|1<<i)
			raised(t, n*one|one-1)
			raised(t, n*one|(one-1)^1<<i)
		}
	}
}

// 6.2: all exponents below One; and others, up to where nothing is left, and far above.
func TestExpAny(t *testing.T) {
	for x := range int64(one) {
		raised(t, x)
	}
	c := rand.New(rand.NewPCG(6, 4))
	for range 5000 {
		raised(t, c.Int64N(43*one))
		raised(t, anyLog(c))
	}
	for _, x := range edges() {
		raised(t, int64(x))
		raised(t, -int64(x))
	}
}

// 6.2: it is the real power, without what has no room behind the point, or one less where that is near.
func TestExpReal(t *testing.T) {
	c := rand.New(rand.NewPCG(6, 5))
	for range 20000 {
		x := c.Int64N(34 * one)
		e, _ := expo.Exp(x)
		if d := math.Exp2(32-float64(x)/one) - float64(e); d < -1e-4 || d > 1+1e-4 {
			t.Error(x, e, d)
		}
	}
}

// 6.3: sums that are known: of the same ones, of such as are just 2^63 - 1 apart, and more, of the ends, and such as have no room; either way round.
func TestLogSumKnown(t *testing.T) {
	for _, c := range []struct{ a, b, want int64 }{
		{0, 0, one},
		{5, 5, one + 5},
		{-7 * one, -7 * one, -6 * one},
		{0, -1, one - 1},
		{0, -one, 38336},
		{5 * one, 3 * one, 5*one + 21097},
		{0, -3 * one, 11136},
		{0, -16 * one, 1},
		{0, -17 * one, 0},
		{-9, -9 - 40*one, -9},
		{-9, -10 - 40*one, -9},
		{-9, -9 - 41*one, -9},
		{1 << 62, 0, 1 << 62},
		// Just 2^63 - 1 apart, and more.
		{hi, 0, hi},
		{-1, lo, -1},
		{hi - 1, -1, hi - 1},
		{hi, -1, hi},
		{0, lo, 0},
		{5, lo, 5},
		{hi, lo, hi},
		{hi, lo + 1, hi},
		{-2, lo, -2},
		// At the ends.
		{lo, lo, lo + one},
		{lo + 1, lo, lo + one},
		{lo + one, lo, lo + one + 38336},
		{lo + 60*one, lo, lo + 60*one},
		// A sum that has just room, and just none.
		{hi - one, hi - one, hi},
		{hi - one - 1, hi - one - 1, hi - 1},
		{hi - one + 1, hi - one + 1, hi},
		{hi - 38336, hi - 38336 - one, hi},
		{hi - 38337, hi - 38337 - one, hi - 1},
		{hi - 38335, hi - 38335 - one, hi},
		{hi, hi, hi},
		{hi, hi - one, hi},
		{hi, hi - 16*one, hi},
		{hi, hi - 20*one, hi},
		{hi - 1, hi - 1 - 20*one, hi - 1},
		// Less 32 times One it has room, though not ahead of that.
		{hi - 2*one, hi - 2*one, hi - one},
		{hi - 31*one, hi - 31*one, hi - 30*one},
	} {
		if s := expo.LogSum(c.a, c.b); s != c.want {
			t.Error(c.a, c.b, s)
		}
		if s := expo.LogSum(c.b, c.a); s != c.want {
			t.Error(c.b, c.a, s)
		}
	}
}

// summed fails if LogSum is not what 6.3 says, either way round.
func summed(t *testing.T, a, b int64) {
	t.Helper()
	want := plainSum(a, b)
	if s := expo.LogSum(a, b); s != want {
		t.Error(a, b, s, want)
	}
	if s := expo.LogSum(b, a); s != want {
		t.Error(b, a, s, want)
	}
}

// 6.3: logarithms that are any, near one another, and about the ends.
func TestLogSumAny(t *testing.T) {
	c := rand.New(rand.NewPCG(6, 6))
	ends := []int64{lo, lo + 1, -1, 0, 1, -one, one, hi - 20*one, hi - one, hi - one + 1, hi - 1, hi}
	for _, a := range ends {
		for _, b := range ends {
			summed(t, a, b)
		}
	}
	for range 3000 {
		a := anyLog(c) >> 1
		summed(t, a, a-c.Int64N(43*one))
		summed(t, a, anyLog(c))
		summed(t, hi-c.Int64N(2*one), hi-c.Int64N(20*one))
		summed(t, lo+c.Int64N(20*one), lo+c.Int64N(20*one))
	}
}

// 6.3: a sum of logarithms is near the logarithm of the sum.
func TestLogSumReal(t *testing.T) {
	c := rand.New(rand.NewPCG(6, 7))
	for range 5000 {
		a, b := anyNumber(c)>>1|1, anyNumber(c)>>1|1
		la, _ := expo.Log(a)
		lb, _ := expo.Log(b)
		want, _ := expo.Log(a + b)
		if s := expo.LogSum(la, lb); s > want || want-s > 3 {
			t.Error(a, b, s, want)
		}
	}
}

// 6.3: the sum of none, of one, and of many.
func TestLogSumsKnown(t *testing.T) {
	for _, c := range []struct {
		l    []int64
		want int64
	}{
		{nil, lo},
		{[]int64{}, lo},
		{[]int64{0}, 0},
		{[]int64{5}, 5},
		{[]int64{-5}, -5},
		{[]int64{hi}, hi},
		{[]int64{lo + 60*one}, lo + 60*one},
		// The least number counts, where others are as near to it.
		{[]int64{lo}, lo + one},
		{[]int64{lo, lo}, lo + one + 38336},
		{[]int64{0, 0}, one},
		{[]int64{0, 0, one}, 2 * one},
		{[]int64{one, 0, 0}, one + 38336 + 27199},
		{[]int64{0, 0, one, 2 * one, 3 * one}, 4 * one},
		{[]int64{hi, hi, hi}, hi},
		{[]int64{hi - one, hi - one, lo}, hi},
		{[]int64{lo, hi}, hi},
	} {
		if s := expo.LogSums(c.l...); s != c.want {
			t.Error(c.l, s, c.want)
		}
	}
}

// 6.3: LogSums is LogSum of all, one by one, in any order; what is handed in stays as it is.
func TestLogSumsAny(t *testing.T) {
	c := rand.New(rand.NewPCG(6, 8))
	for range 500 {
		l := make([]int64, c.IntN(20))
		for i := range l {
			l[i] = c.Int64N(20 * one)
			if c.IntN(8) == 0 {
				l[i] = anyLog(c)
			}
		}
		kept := slices.Clone(l)
		want := int64(lo)
		for _, x := range l {
			want = plainSum(want, x)
		}
		if s := expo.LogSums(l...); s != want {
			t.Error(l, s, want)
		}
		if !slices.Equal(l, kept) {
			t.Error(kept, "became", l)
		}
	}
}

// 6.4: the logarithm of twice a number is One more.
func TestTwice(t *testing.T) {
	twice := func(x uint64) {
		t.Helper()
		l, _ := expo.Log(x)
		if next, code := expo.Log(2 * x); next != l+one || code != api.OK {
			t.Error(x, l, next, code)
		}
	}
	for _, x := range edges() {
		if x != 0 && x < 1<<63 {
			twice(x)
		}
	}
	c := rand.New(rand.NewPCG(6, 9))
	for range 20000 {
		twice(anyNumber(c)>>1 | 1)
	}
}

// 6.4: who is greater has no lesser logarithm.
func TestGreater(t *testing.T) {
	inOrder := func(a, b uint64) {
		t.Helper()
		la, _ := expo.Log(a)
		lb, _ := expo.Log(b)
		if la > lb {
			t.Error(a, la, b, lb)
		}
	}
	all := edges()
	for i := 2; i < len(all); i++ {
		inOrder(all[i-1], all[i])
	}
	for x := uint64(1); x < 100000; x++ {
		inOrder(x, x+1)
	}
	c := rand.New(rand.NewPCG(6, 10))
	for range 20000 {
		a, b := anyNumber(c)|1, anyNumber(c)|1
		inOrder(min(a, b), max(a, b))
		b = a ^ 1<<(1+c.IntN(63))
		inOrder(min(a, b), max(a, b))
		inOrder(max(a, 2)-1, max(a, 2))
	}
}
