package wide_test

import (
	"math"
	"math/big"
	"math/rand/v2"
	"testing"

	"theodolite/api"
	"theodolite/wide"
)

// least and greatest are the ends of what an Int is.
var (
	least    = wide.Int{Hi: math.MinInt64, Lo: 0}
	greatest = wide.Int{Hi: math.MaxInt64, Lo: math.MaxUint64}
)

var modes = []int{wide.Down, wide.Up, wide.Near, wide.Zero}

var modeNames = []string{"Down", "Up", "Near", "Zero"}

// powerOfTwo is 2^n.
func powerOfTwo(n uint) *big.Int { return new(big.Int).Lsh(big.NewInt(1), n) }

// plain is what an Int stands for, by 3.1's words.
func plain(a wide.Int) *big.Int {
	x := new(big.Int).Mul(big.NewInt(a.Hi), powerOfTwo(64))
	return x.Add(x, new(big.Int).SetUint64(a.Lo))
}

// hasRoom tells whether a number is from -2^127 on, and below 2^127.
func hasRoom(x *big.Int) bool {
	return x.Cmp(plain(least)) >= 0 && x.Cmp(powerOfTwo(127)) < 0
}

// packed is a number that has room as an Int.
func packed(t *testing.T, x *big.Int) wide.Int {
	t.Helper()
	if !hasRoom(x) {
		t.Fatal("no room:", x)
	}
	hi, lo := new(big.Int).DivMod(x, powerOfTwo(64), new(big.Int))
	return wide.Int{Hi: hi.Int64(), Lo: lo.Uint64()}
}

// plainDiv is 3.4's quotient, word by word; false: it has no room.
func plainDiv(a wide.Int, b int64, mode int) (int64, bool) {
	q := new(big.Rat).SetFrac(plain(a), big.NewInt(b))
	// Div rounds down here, as a Rat's lower part is above 0.
	down := new(big.Int).Div(q.Num(), q.Denom())
	up := new(big.Int).Neg(new(big.Int).Div(new(big.Int).Neg(q.Num()), q.Denom()))
	x := down
	switch mode {
	case wide.Up:
		x = up
	case wide.Near:
		under := new(big.Rat).Sub(q, new(big.Rat).SetInt(down))
		over := new(big.Rat).Sub(new(big.Rat).SetInt(up), q)
		if over.Cmp(under) <= 0 {
			x = up
		}
	case wide.Zero:
		if up.CmpAbs(down) < 0 {
			x = up
		}
	}
	return x.Int64(), x.IsInt64()
}

// small is numbers of 64 bits about which something may change.
func small() []int64 {
	all := []int64{0, math.MinInt64, math.MinInt64 + 1, math.MaxInt64, math.MaxInt64 - 1}
	for _, x := range []int64{1, 2, 3, 5, 7, 10, 1<<31 - 1, 1 << 31, 1<<32 - 1, 1 << 32, 1<<32 + 1, 1<<61 + 1, 1<<62 - 1, 1 << 62, 1<<62 + 1} {
		all = append(all, x, -x)
	}
	return all
}

// great is numbers of 128 bits about which something may change.
func great() []wide.Int {
	var all []wide.Int
	los := []uint64{0, 1, 2, 3, 1<<32 - 1, 1<<63 - 1, 1 << 63, 1<<63 + 1, math.MaxUint64 - 1, math.MaxUint64}
	for _, hi := range []int64{math.MinInt64, math.MinInt64 + 1, -1 << 62, -1<<62 - 1, -1 << 32, -3, -2, -1, 0, 1, 2, 1 << 32, 1<<62 - 1, 1 << 62, math.MaxInt64 - 1, math.MaxInt64} {
		for _, lo := range los {
			all = append(all, wide.Int{Hi: hi, Lo: lo})
		}
	}
	return all
}

// anySmall is a number of up to 64 bits that looks like any.
func anySmall(c *rand.Rand) int64 { return int64(c.Uint64()) >> c.IntN(64) }

// anyGreat is a number of up to 128 bits that looks like any.
func anyGreat(c *rand.Rand) wide.Int {
	switch c.IntN(3) {
	case 0:
		return wide.Int{Hi: int64(c.Uint64()), Lo: c.Uint64()}
	case 1:
		return wide.Int{Hi: anySmall(c), Lo: c.Uint64()}
	}
	x := anySmall(c)
	return wide.Int{Hi: x >> 63, Lo: uint64(x)}
}

// 3.1: an Int is its two parts, and Of has them.
func TestOf(t *testing.T) {
	for _, c := range []struct {
		x    int64
		want wide.Int
	}{
		{0, wide.Int{Hi: 0, Lo: 0}},
		{1, wide.Int{Hi: 0, Lo: 1}},
		{-1, wide.Int{Hi: -1, Lo: math.MaxUint64}},
		{-2, wide.Int{Hi: -1, Lo: math.MaxUint64 - 1}},
		{math.MaxInt64, wide.Int{Hi: 0, Lo: 1<<63 - 1}},
		{math.MinInt64, wide.Int{Hi: -1, Lo: 1 << 63}},
	} {
		if got := wide.Of(c.x); got != c.want {
			t.Error(c.x, got)
		}
	}
	for _, x := range small() {
		if got := plain(wide.Of(x)); got.Cmp(big.NewInt(x)) != 0 {
			t.Error(x, got)
		}
	}
}

// 3.2: the sign of a number, the least and the greatest one among them.
func TestSign(t *testing.T) {
	for _, c := range []struct {
		a    wide.Int
		want int
	}{
		{wide.Int{}, 0},
		{wide.Int{Lo: 1}, 1},
		{wide.Int{Lo: 1 << 63}, 1},
		{wide.Int{Lo: math.MaxUint64}, 1},
		{wide.Int{Hi: 1}, 1},
		{greatest, 1},
		{wide.Int{Hi: -1, Lo: math.MaxUint64}, -1},
		{wide.Int{Hi: -1}, -1},
		{least, -1},
	} {
		if got := c.a.Sign(); got != c.want {
			t.Error(c.a, got)
		}
	}
	for _, a := range great() {
		if got := a.Sign(); got != plain(a).Sign() {
			t.Error(a, got)
		}
	}
}

// 3.2: a sign turned; the least number stays.
func TestNeg(t *testing.T) {
	for _, c := range [][2]wide.Int{
		{{}, {}},
		{{Lo: 1}, {Hi: -1, Lo: math.MaxUint64}},
		{{Hi: 1}, {Hi: -1}},
		{{Hi: 1, Lo: 1}, {Hi: -2, Lo: math.MaxUint64}},
		{{Lo: 1 << 63}, {Hi: -1, Lo: 1 << 63}},
		{greatest, {Hi: math.MinInt64, Lo: 1}},
		{least, least},
	} {
		if got := c[0].Neg(); got != c[1] {
			t.Error(c[0], got)
		}
		if got := c[1].Neg(); got != c[0] {
			t.Error(c[1], got)
		}
	}
	for _, a := range great() {
		if want := new(big.Int).Neg(plain(a)); a != least && a.Neg() != packed(t, want) {
			t.Error(a, a.Neg())
		}
	}
}

// sum fails if Add is not the sum, or tells of room where there is none.
func sum(t *testing.T, a, b wide.Int) {
	t.Helper()
	got, ok := wide.Add(a, b)
	want := new(big.Int).Add(plain(a), plain(b))
	if ok != hasRoom(want) || ok && got != packed(t, want) {
		t.Error(a, b, got, ok)
	}
}

// 3.2: sums, just within room, and just without.
func TestAdd(t *testing.T) {
	one, minus := wide.Of(1), wide.Of(-1)
	for _, c := range []struct {
		a, b, want wide.Int
		ok         bool
	}{
		{wide.Int{}, wide.Int{}, wide.Int{}, true},
		{wide.Int{Lo: math.MaxUint64}, one, wide.Int{Hi: 1}, true},
		{minus, one, wide.Int{}, true},
		{minus, minus, wide.Of(-2), true},
		{wide.Int{Hi: 1}, minus, wide.Int{Lo: math.MaxUint64}, true},
		{greatest, wide.Int{}, greatest, true},
		{least, wide.Int{}, least, true},
		{greatest, least, minus, true},
		{greatest, minus, wide.Int{Hi: math.MaxInt64, Lo: math.MaxUint64 - 1}, true},
		{least, one, wide.Int{Hi: math.MinInt64, Lo: 1}, true},
		{wide.Int{Hi: math.MaxInt64, Lo: math.MaxUint64 - 1}, one, greatest, true},
		{wide.Int{Hi: math.MinInt64, Lo: 1}, minus, least, true},
		{wide.Int{Hi: -1 << 62}, wide.Int{Hi: -1 << 62}, least, true},
		{greatest, one, wide.Int{}, false},
		{least, minus, wide.Int{}, false},
		{greatest, greatest, wide.Int{}, false},
		{least, least, wide.Int{}, false},
		{wide.Int{Hi: 1 << 62}, wide.Int{Hi: 1 << 62}, wide.Int{}, false},
	} {
		got, ok := wide.Add(c.a, c.b)
		if ok != c.ok || ok && got != c.want {
			t.Error(c.a, c.b, got, ok)
		}
	}
	for _, a := range great() {
		for _, b := range great() {
			sum(t, a, b)
		}
	}
	c := rand.New(rand.NewPCG(3, 1))
	for range 20000 {
		sum(t, anyGreat(c), anyGreat(c))
	}
}

// 3.2: which of two numbers is greater: by the upper part with its sign, then by the lower one without.
func TestCmp(t *testing.T) {
	for _, c := range []struct {
		a, b wide.Int
		want int
	}{
		{wide.Int{}, wide.Int{}, 0},
		{least, least, 0},
		{greatest, greatest, 0},
		{least, greatest, -1},
		{wide.Of(-1), wide.Int{}, -1},
		{wide.Int{Hi: -1, Lo: 5}, wide.Int{Lo: 4}, -1},
		{wide.Int{Lo: 1<<63 - 1}, wide.Int{Lo: 1 << 63}, -1},
		{wide.Int{Hi: 1, Lo: 2}, wide.Int{Hi: 2, Lo: 1}, -1},
		{wide.Int{Hi: -3, Lo: 1}, wide.Int{Hi: -3, Lo: 2}, -1},
		{wide.Int{Hi: 7, Lo: math.MaxUint64}, wide.Int{Hi: 8}, -1},
	} {
		if got := wide.Cmp(c.a, c.b); got != c.want {
			t.Error(c.a, c.b, got)
		}
		if got := wide.Cmp(c.b, c.a); got != -c.want {
			t.Error(c.b, c.a, got)
		}
	}
	for _, a := range great() {
		for _, b := range great() {
			if got := wide.Cmp(a, b); got != plain(a).Cmp(plain(b)) {
				t.Error(a, b, got)
			}
		}
	}
}

// product fails if Mul is not the product.
func product(t *testing.T, a, b int64) {
	t.Helper()
	want := new(big.Int).Mul(big.NewInt(a), big.NewInt(b))
	if got := wide.Mul(a, b); got != packed(t, want) {
		t.Error(a, b, got)
	}
}

// 3.3: products, of each sign on either side.
func TestMul(t *testing.T) {
	for _, c := range []struct {
		a, b int64
		want wide.Int
	}{
		{0, 0, wide.Int{}},
		{0, math.MinInt64, wide.Int{}},
		{6, 7, wide.Of(42)},
		{-6, 7, wide.Of(-42)},
		{6, -7, wide.Of(-42)},
		{-6, -7, wide.Of(42)},
		{math.MinInt64, math.MinInt64, wide.Int{Hi: 1 << 62}},
		{math.MinInt64, math.MaxInt64, wide.Int{Hi: -1 << 62, Lo: 1 << 63}},
		{math.MaxInt64, math.MaxInt64, wide.Int{Hi: 1<<62 - 1, Lo: 1}},
		{math.MinInt64, -1, wide.Int{Lo: 1 << 63}},
		{math.MinInt64, 1, wide.Int{Hi: -1, Lo: 1 << 63}},
		{1 << 32, 1 << 32, wide.Int{Hi: 1}},
		{1 << 32, -1 << 32, wide.Int{Hi: -1}},
	} {
		if got := wide.Mul(c.a, c.b); got != c.want {
			t.Error(c.a, c.b, got)
		}
	}
	for _, a := range small() {
		for _, b := range small() {
			product(t, a, b)
		}
	}
	c := rand.New(rand.NewPCG(3, 3))
	for range 20000 {
		product(t, anySmall(c), anySmall(c))
	}
}

// shifted fails if Shl is not what 3.3 says.
func shifted(t *testing.T, a wide.Int, n int) {
	t.Helper()
	got, ok := wide.Shl(a, n)
	if n < 0 || n > 63 {
		if ok || got != (wide.Int{}) {
			t.Error(a, n, got, ok)
		}
		return
	}
	want := new(big.Int).Mul(plain(a), powerOfTwo(uint(n)))
	if ok != hasRoom(want) || ok && got != packed(t, want) || !ok && got != (wide.Int{}) {
		t.Error(a, n, got, ok)
	}
}

// 3.3: times powers of two, just within room, and just without; an n of 0, and of 63.
func TestShl(t *testing.T) {
	for _, c := range []struct {
		a    wide.Int
		n    int
		want wide.Int
		ok   bool
	}{
		{wide.Of(5), 0, wide.Of(5), true},
		{greatest, 0, greatest, true},
		{least, 0, least, true},
		{wide.Int{}, 63, wide.Int{}, true},
		{wide.Of(1), 63, wide.Int{Lo: 1 << 63}, true},
		{wide.Of(2), 63, wide.Int{Hi: 1}, true},
		{wide.Of(-1), 63, wide.Int{Hi: -1, Lo: 1 << 63}, true},
		{wide.Of(-2), 63, wide.Int{Hi: -1}, true},
		{wide.Int{Hi: 3, Lo: 1<<63 | 1}, 1, wide.Int{Hi: 7, Lo: 2}, true},
		{wide.Int{Hi: 1<<62 - 1, Lo: math.MaxUint64}, 1, wide.Int{Hi: math.MaxInt64, Lo: math.MaxUint64 - 1}, true},
		{wide.Int{Hi: -1 << 62}, 1, least, true},
		{wide.Int{Hi: -1}, 63, least, true},
		{wide.Int{Lo: math.MaxUint64}, 63, wide.Int{Hi: math.MaxInt64, Lo: 1 << 63}, true},
		{wide.Int{Hi: 1}, 63, wide.Int{}, false},
		{wide.Int{Hi: -2, Lo: math.MaxUint64}, 63, wide.Int{}, false},
		{wide.Int{Hi: 1 << 62}, 1, wide.Int{}, false},
		{wide.Int{Hi: -1<<62 - 1, Lo: math.MaxUint64}, 1, wide.Int{}, false},
		{least, 1, wide.Int{}, false},
		{greatest, 1, wide.Int{}, false},
		{wide.Int{Hi: 4}, 62, wide.Int{}, false},
	} {
		if got, ok := wide.Shl(c.a, c.n); got != c.want || ok != c.ok {
			t.Error(c.a, c.n, got, ok)
		}
	}
	c := rand.New(rand.NewPCG(3, 4))
	for n := -2; n <= 130; n++ {
		for _, a := range great() {
			shifted(t, a, n)
		}
		for range 100 {
			shifted(t, anyGreat(c), n)
		}
	}
}

// 3.3: an n that is none, even of 0.
func TestShlWrong(t *testing.T) {
	for _, n := range []int{-1, -2, -63, -64, math.MinInt, 64, 65, 127, 128, 1 << 32, math.MaxInt} {
		for _, a := range []wide.Int{{}, wide.Of(1), wide.Of(-1), least, greatest} {
			shifted(t, a, n)
		}
	}
}

// 3.4: the modes are the numbers that the chapter says.
func TestModes(t *testing.T) {
	for i, mode := range modes {
		if mode != i {
			t.Error(modeNames[i], mode)
		}
	}
}

// The chapter's example, each sign on either side, and both as near; by Down, Up, Near and Zero.
func TestDivKnown(t *testing.T) {
	for _, c := range []struct {
		a, b int64
		want [4]int64
	}{
		{7, 2, [4]int64{3, 4, 4, 3}},
		{-7, 2, [4]int64{-4, -3, -3, -3}},
		{7, -2, [4]int64{-4, -3, -3, -3}},
		{-7, -2, [4]int64{3, 4, 4, 3}},
		{7, 3, [4]int64{2, 3, 2, 2}},
		{-7, 3, [4]int64{-3, -2, -2, -2}},
		{7, -3, [4]int64{-3, -2, -2, -2}},
		{-7, -3, [4]int64{2, 3, 2, 2}},
		{8, 3, [4]int64{2, 3, 3, 2}},
		{-8, 3, [4]int64{-3, -2, -3, -2}},
		{8, -3, [4]int64{-3, -2, -3, -2}},
		{-8, -3, [4]int64{2, 3, 3, 2}},
		{1, 2, [4]int64{0, 1, 1, 0}},
		{-1, 2, [4]int64{-1, 0, 0, 0}},
		{1, 3, [4]int64{0, 1, 0, 0}},
		{-1, 3, [4]int64{-1, 0, 0, 0}},
		{2, -3, [4]int64{-1, 0, -1, 0}},
		{0, 5, [4]int64{0, 0, 0, 0}},
		{0, -5, [4]int64{0, 0, 0, 0}},
		{6, 3, [4]int64{2, 2, 2, 2}},
		{-6, 3, [4]int64{-2, -2, -2, -2}},
		{math.MinInt64, 1, [4]int64{math.MinInt64, math.MinInt64, math.MinInt64, math.MinInt64}},
		{math.MaxInt64, -1, [4]int64{-math.MaxInt64, -math.MaxInt64, -math.MaxInt64, -math.MaxInt64}},
		{math.MinInt64, math.MinInt64, [4]int64{1, 1, 1, 1}},
		{1, math.MinInt64, [4]int64{-1, 0, 0, 0}},
		{-1, math.MinInt64, [4]int64{0, 1, 0, 0}},
		{1 << 62, math.MinInt64, [4]int64{-1, 0, 0, 0}},
		{-1 << 62, math.MinInt64, [4]int64{0, 1, 1, 0}},
		{1<<62 + 1, math.MinInt64, [4]int64{-1, 0, -1, 0}},
		{-1<<62 - 1, math.MinInt64, [4]int64{0, 1, 1, 0}},
		{math.MaxInt64, math.MinInt64, [4]int64{-1, 0, -1, 0}},
		{1 << 62, math.MaxInt64, [4]int64{0, 1, 1, 0}},
		{1<<62 - 1, math.MaxInt64, [4]int64{0, 1, 0, 0}},
	} {
		for _, mode := range modes {
			if got, code := wide.Div(wide.Of(c.a), c.b, mode); got != c.want[mode] || code != api.OK {
				t.Error(c.a, c.b, modeNames[mode], got, code)
			}
		}
	}
}

// 3.4: quotients just within 64 bits, and just without; which of them have room hangs on the mode.
func TestDivRoom(t *testing.T) {
	const lo, hi = math.MinInt64, math.MaxInt64
	const none = "none"
	for _, c := range []struct {
		a    wide.Int
		b    int64
		want [4]any
	}{
		// 2^63 - 1/2, and -2^63 - 1/2.
		{wide.Int{Lo: math.MaxUint64}, 2, [4]any{hi, none, none, hi}},
		{wide.Int{Hi: -1, Lo: 1}, -2, [4]any{hi, none, none, hi}},
		{wide.Int{Hi: -2, Lo: math.MaxUint64}, 2, [4]any{none, lo, lo, lo}},
		{wide.Int{Hi: 1, Lo: 1}, -2, [4]any{none, lo, lo, lo}},
		// 2^63 - 2/3, 2^63 - 1/3, -2^63 - 1/3, and -2^63 - 2/3.
		{wide.Int{Hi: 1, Lo: 1<<63 - 2}, 3, [4]any{hi, none, hi, hi}},
		{wide.Int{Hi: 1, Lo: 1<<63 - 1}, 3, [4]any{hi, none, none, hi}},
		{wide.Int{Hi: -2, Lo: 1<<63 - 1}, 3, [4]any{none, lo, lo, lo}},
		{wide.Int{Hi: -2, Lo: 1<<63 - 2}, 3, [4]any{none, lo, none, lo}},
		// 2^63, and one more, half of it more, and -2^63, and one less.
		{wide.Int{Lo: 1 << 63}, 1, [4]any{none, none, none, none}},
		{wide.Of(lo), -1, [4]any{none, none, none, none}},
		{wide.Of(lo), 1, [4]any{lo, lo, lo, lo}},
		{wide.Int{Lo: 1 << 63}, -1, [4]any{lo, lo, lo, lo}},
		{wide.Int{Lo: 1<<63 - 1}, 1, [4]any{hi, hi, hi, hi}},
		{wide.Int{Lo: 1<<63 + 1}, -1, [4]any{none, none, none, none}},
		{wide.Int{Hi: 1}, 2, [4]any{none, none, none, none}},
		{wide.Int{Hi: 1, Lo: 1}, 2, [4]any{none, none, none, none}},
		{wide.Int{Hi: -1}, 2, [4]any{lo, lo, lo, lo}},
		{wide.Int{Hi: -2, Lo: math.MaxUint64 - 1}, 2, [4]any{none, none, none, none}},
		// What is 2^64 and a little, or much, would look like a number with room, were its upper part lost.
		{wide.Int{Hi: 1}, 1, [4]any{none, none, none, none}},
		{wide.Int{Hi: -1}, 1, [4]any{none, none, none, none}},
		{wide.Int{Hi: 2, Lo: 1}, 2, [4]any{none, none, none, none}},
		{wide.Int{Lo: math.MaxUint64}, 1, [4]any{none, none, none, none}},
		{wide.Int{Lo: math.MaxUint64}, -1, [4]any{none, none, none, none}},
		// The least number of all, and the greatest one.
		{least, 1, [4]any{none, none, none, none}},
		{least, -1, [4]any{none, none, none, none}},
		{least, hi, [4]any{none, none, none, none}},
		{least, lo, [4]any{none, none, none, none}},
		{wide.Int{Hi: lo, Lo: 1}, lo, [4]any{none, none, none, none}},
		{greatest, 1, [4]any{none, none, none, none}},
		{greatest, lo, [4]any{none, none, none, none}},
		{greatest, hi, [4]any{none, none, none, none}},
		// 2^62 times -2^63, a half of it, and more.
		{wide.Int{Hi: 1 << 62}, lo, [4]any{lo, lo, lo, lo}},
		{wide.Int{Hi: 1<<62 - 1, Lo: 1}, hi, [4]any{hi, hi, hi, hi}},
		{wide.Int{Hi: 1 << 62, Lo: 1}, lo, [4]any{none, lo, lo, lo}},
		{wide.Int{Hi: 1 << 62, Lo: 1 << 62}, lo, [4]any{none, lo, lo, lo}},
		{wide.Int{Hi: 1 << 62, Lo: 1<<62 + 1}, lo, [4]any{none, lo, none, lo}},
		{wide.Int{Hi: -1 << 62}, lo, [4]any{none, none, none, none}},
		{wide.Int{Hi: -1 << 62, Lo: 1 << 62}, lo, [4]any{hi, none, none, hi}},
		{wide.Int{Hi: -1 << 62, Lo: 1<<62 + 1}, lo, [4]any{hi, none, hi, hi}},
	} {
		for _, mode := range modes {
			x, code := int64(0), api.ErrSat
			if want, ok := c.want[mode].(int); ok {
				x, code = int64(want), api.OK
			}
			if got, gotCode := wide.Div(c.a, c.b, mode); got != x || gotCode != code {
				t.Error(c.a, c.b, modeNames[mode], got, gotCode)
			}
		}
	}
}

// divided fails if Div is not what 3.4 and 3.5 say, in any mode.
func divided(t *testing.T, a wide.Int, b int64) {
	t.Helper()
	for _, mode := range modes {
		got, code := wide.Div(a, b, mode)
		want, ok := plainDiv(a, b, mode)
		if ok && (got != want || code != api.OK) || !ok && (got != 0 || code != api.ErrSat) {
			t.Error(a, b, modeNames[mode], got, code)
		}
	}
	apart(t, a, b)
}

// apart fails if what is rounded down and what is rounded up are neither the same nor one apart, or others than these come of the two other modes.
func apart(t *testing.T, a wide.Int, b int64) {
	t.Helper()
	down, code := wide.Div(a, b, wide.Down)
	up, codeUp := wide.Div(a, b, wide.Up)
	if code != api.OK || codeUp != api.OK {
		return
	}
	if up < down || up-down > 1 {
		t.Error(a, b, down, up)
	}
	for _, mode := range []int{wide.Near, wide.Zero} {
		if x, code := wide.Div(a, b, mode); code != api.OK || x != down && x != up {
			t.Error(a, b, modeNames[mode], x, code)
		}
	}
}

// 3.4 and 3.5: all small numbers.
func TestDivSmall(t *testing.T) {
	for a := int64(-40); a <= 40; a++ {
		for b := int64(-13); b <= 13; b++ {
			if b != 0 {
				divided(t, wide.Of(a), b)
			}
		}
	}
}

// 3.4 and 3.5: numbers about which something may change.
func TestDivEdges(t *testing.T) {
	for _, a := range great() {
		for _, b := range small() {
			if b != 0 {
				divided(t, a, b)
			}
		}
	}
}

// 3.4 and 3.5: about what has just room in 64 bits, and about the half between two numbers.
func TestDivAbout(t *testing.T) {
	for _, b := range small() {
		for _, q := range []int64{math.MinInt64, math.MinInt64 + 1, -2, -1, 0, 1, 2, math.MaxInt64 - 1, math.MaxInt64} {
			if b == 0 {
				continue
			}
			for _, more := range []int64{0, b / 2, -(b / 2), b - 1, -b, b} {
				for _, bit := range []int64{-2, -1, 0, 1, 2} {
					a, _ := wide.Add(wide.Mul(q, b), wide.Of(more))
					a, _ = wide.Add(a, wide.Of(bit))
					divided(t, a, b)
				}
			}
		}
	}
}

// 3.4 and 3.5: numbers that look like any, of any size.
func TestDivAny(t *testing.T) {
	c := rand.New(rand.NewPCG(3, 5))
	for range 20000 {
		a, b := anyGreat(c), anySmall(c)
		if b != 0 {
			divided(t, a, b)
		}
		p, q := anySmall(c), anySmall(c)
		if q != 0 {
			a, _ := wide.Add(wide.Mul(p, q), wide.Of(anySmall(c)%q))
			divided(t, a, q)
		}
	}
}

// 3.4: 0 as what is divided by, and modes that are none, go ahead of what has no room.
func TestDivErrArg(t *testing.T) {
	refused := func(a wide.Int, b int64, mode int) {
		t.Helper()
		if x, code := wide.Div(a, b, mode); x != 0 || code != api.ErrArg {
			t.Error(a, b, mode, x, code)
		}
	}
	for _, a := range []wide.Int{{}, wide.Of(7), wide.Of(-7), least, greatest} {
		for _, mode := range []int{-1, 4, 5, -4, 256, math.MinInt, math.MaxInt} {
			for _, b := range []int64{0, 1, -1, 2, math.MinInt64, math.MaxInt64} {
				refused(a, b, mode)
			}
		}
		for _, mode := range modes {
			refused(a, 0, mode)
		}
	}
}

// 3.4: a product, divided, even where it alone has no room in 64 bits.
func TestMulDiv(t *testing.T) {
	for _, c := range []struct {
		a, b, c int64
		mode    int
		want    int64
		code    api.Code
	}{
		{-7, 1, 2, wide.Down, -4, api.OK},
		{-7, 1, 2, wide.Near, -3, api.OK},
		{-7, 1, 2, wide.Zero, -3, api.OK},
		{7, 1, 2, wide.Near, 4, api.OK},
		{1 << 62, 6, 8, wide.Down, 3 << 60, api.OK},
		{math.MaxInt64, math.MaxInt64, math.MaxInt64, wide.Up, math.MaxInt64, api.OK},
		{math.MinInt64, math.MinInt64, math.MinInt64, wide.Near, math.MinInt64, api.OK},
		{math.MinInt64, math.MaxInt64, math.MinInt64, wide.Near, math.MaxInt64, api.OK},
		{math.MinInt64, 1, 1, wide.Zero, math.MinInt64, api.OK},
		{math.MinInt64, 1, -1, wide.Zero, 0, api.ErrSat},
		{math.MinInt64, math.MinInt64, 1, wide.Down, 0, api.ErrSat},
		{math.MaxInt64, 3, 2, wide.Down, 0, api.ErrSat},
		{3, 4, 0, wide.Down, 0, api.ErrArg},
		{0, 0, 0, wide.Down, 0, api.ErrArg},
		{3, 4, 5, 4, 0, api.ErrArg},
		{3, 4, 5, -1, 0, api.ErrArg},
		{math.MinInt64, math.MinInt64, 1, 4, 0, api.ErrArg},
	} {
		if x, code := wide.MulDiv(c.a, c.b, c.c, c.mode); x != c.want || code != c.code {
			t.Error(c.a, c.b, c.c, c.mode, x, code)
		}
	}
}

// 3.4: MulDiv is Div of Mul, whatever it is given.
func TestMulDivAny(t *testing.T) {
	c := rand.New(rand.NewPCG(3, 6))
	for range 50000 {
		x, y, z, mode := anySmall(c), anySmall(c), anySmall(c), c.IntN(6)-1
		got, code := wide.MulDiv(x, y, z, mode)
		want, wantCode := wide.Div(wide.Mul(x, y), z, mode)
		if got != want || code != wantCode {
			t.Error(x, y, z, mode, got, code)
		}
	}
}

// 3.4: Up of Down, Down of Up, and any other mode as it is.
func TestTurned(t *testing.T) {
	for _, c := range [][2]int{
		{wide.Down, wide.Up}, {wide.Up, wide.Down}, {wide.Near, wide.Near}, {wide.Zero, wide.Zero},
		{-1, -1}, {-2, -2}, {4, 4}, {5, 5}, {math.MinInt, math.MinInt}, {math.MaxInt, math.MaxInt},
	} {
		if got := wide.Turned(c[0]); got != c[1] {
			t.Error(c[0], got)
		}
	}
}

// 3.5: in the whole room of an Int, where a quotient has room both ways.
func TestApart(t *testing.T) {
	c := rand.New(rand.NewPCG(3, 7))
	for range 20000 {
		b := anySmall(c)
		if b == 0 {
			continue
		}
		a := wide.Mul(anySmall(c), b)
		apart(t, a, b)
		a, _ = wide.Add(a, wide.Of(anySmall(c)))
		apart(t, a, b)
	}
	for _, a := range []wide.Int{wide.Of(1), wide.Of(-1), {Lo: 1<<63 - 1}, {Hi: -1, Lo: 1 << 63}} {
		for _, b := range []int64{1, -1, 2, -2, math.MinInt64, math.MaxInt64} {
			apart(t, a, b)
		}
	}
}
