package nat_test

import (
	"math"
	"math/big"
	"math/rand/v2"
	"slices"
	"strings"
	"testing"

	"theodolite/nat"
)

const (
	full = math.MaxUint32
	half = 1 << 31
)

// listed is a list of parts, for short.
func listed(l ...uint32) []uint32 { return l }

// of is the number of these parts, the lowest first.
func of(l ...uint32) nat.Nat { return nat.From(l) }

// repeated is the number of so many parts, all of them alike.
func repeated(part uint32, n int) nat.Nat { return nat.From(slices.Repeat(listed(part), n)) }

// powerOfTwo is 2^n.
func powerOfTwo(n int) *big.Int { return new(big.Int).Lsh(big.NewInt(1), uint(n)) }

// plainParts is what parts stand for, by 16.1's words.
func plainParts(l []uint32) *big.Int {
	x := new(big.Int)
	for i, part := range l {
		x.Add(x, new(big.Int).Mul(big.NewInt(int64(part)), powerOfTwo(32*i)))
	}
	return x
}

// plain is what a number stands for.
func plain(a nat.Nat) *big.Int { return plainParts(a.Parts()) }

// plainDiv is 16.4's Div, word by word.
func plainDiv(a, b *big.Int) (*big.Int, *big.Int) {
	if b.Sign() == 0 {
		return new(big.Int), a
	}
	return new(big.Int).DivMod(a, b, new(big.Int))
}

// is holds a number against what it should be, and its parts against 16.1's words.
func is(t *testing.T, what string, got nat.Nat, want *big.Int) {
	t.Helper()
	l := got.Parts()
	if n := len(l); n > 0 && l[n-1] == 0 {
		t.Errorf("%s: the last part is 0: %v", what, l)
	}
	if plainParts(l).Cmp(want) != 0 {
		t.Errorf("%s: got %v, want %v", what, plainParts(l), want)
	}
	if got.Zero() != (want.Sign() == 0) {
		t.Errorf("%s: Zero of %v is %v", what, want, got.Zero())
	}
}

// hasParts holds a number against its parts.
func hasParts(t *testing.T, what string, got nat.Nat, want ...uint32) {
	t.Helper()
	if !slices.Equal(got.Parts(), want) {
		t.Errorf("%s: got the parts %v, want %v", what, got.Parts(), want)
	}
}

// anyPart is a part that looks like any, or one about which something may change.
func anyPart(c *rand.Rand) uint32 {
	edges := listed(0, 0, 1, 2, half-1, half, half+1, full-1, full, full)
	if c.IntN(2) == 0 {
		return edges[c.IntN(len(edges))]
	}
	return c.Uint32()
}

// anyNat is a number of up to so many parts.
func anyNat(c *rand.Rand, n int) nat.Nat {
	l := make([]uint32, c.IntN(n+1))
	for i := range l {
		l[i] = anyPart(c)
	}
	return nat.From(l)
}

// numbers is numbers of no part, of one, of two, and of more, about which something may change, and some others.
func numbers() []nat.Nat {
	all := []nat.Nat{{}, of(1), of(2), of(3), of(9), of(10), of(half - 1), of(half), of(half + 1), of(full - 1), of(full)}
	for n := 1; n < 6; n++ {
		all = append(all, nat.From(append(make([]uint32, n), 1)), nat.From(append(make([]uint32, n), half)), nat.From(append(make([]uint32, n), full)))
		all = append(all, repeated(1, n+1), repeated(half, n+1), repeated(full, n+1))
		all = append(all, nat.From(append(slices.Repeat(listed(full), n), half)), nat.From(append(listed(1), append(make([]uint32, n), 1)...)))
	}
	c := rand.New(rand.NewPCG(16, 1))
	for n := range 40 {
		all = append(all, anyNat(c, 1+n/4))
	}
	return all
}

func TestOf(t *testing.T) {
	for _, c := range []struct {
		x     uint64
		parts []uint32
	}{
		{0, nil},
		{1, listed(1)},
		{5, listed(5)},
		{1<<32 - 1, listed(full)},
		{1 << 32, listed(0, 1)},
		{1<<32 + 7, listed(7, 1)},
		{1 << 63, listed(0, half)},
		{math.MaxUint64, listed(full, full)},
		{3<<32 | 2, listed(2, 3)},
	} {
		a := nat.Of(c.x)
		hasParts(t, "Of", a, c.parts...)
		if a.Zero() != (c.x == 0) {
			t.Error(c.x, "Zero", a.Zero())
		}
	}
	var none nat.Nat
	if !none.Zero() || len(none.Parts()) != 0 || nat.Cmp(none, nat.Of(0)) != 0 {
		t.Error("a zero Nat is not 0:", none.Parts())
	}
}

func TestFrom(t *testing.T) {
	for _, c := range []struct {
		l     []uint32
		parts []uint32
	}{
		{nil, nil},
		{listed(), nil},
		{listed(0), nil},
		{listed(0, 0, 0), nil},
		{listed(7), listed(7)},
		{listed(7, 0), listed(7)},
		{listed(0, 7), listed(0, 7)},
		{listed(0, 0, 7, 0, 0), listed(0, 0, 7)},
		{listed(1, 2, 3, 4, 5), listed(1, 2, 3, 4, 5)},
		{listed(full, 0, full, 0), listed(full, 0, full)},
	} {
		a := nat.From(c.l)
		hasParts(t, "From", a, c.parts...)
		if a.Zero() != (len(c.parts) == 0) {
			t.Error(c.l, "Zero", a.Zero())
		}
		is(t, "From", a, plainParts(c.l))
	}
}

// TestNothingIsShared: neither the list of which a number was made nor the one that it told is the number's own, nor is what lies behind their length read, or written to.
func TestNothingIsShared(t *testing.T) {
	room := listed(1, 2, 3, 4, 5, 6)
	a := nat.From(room[1:4])
	hasParts(t, "ahead of a change", a, 2, 3, 4)
	for i := range room {
		room[i] = 99
	}
	hasParts(t, "behind a change of what came in", a, 2, 3, 4)
	told := a.Parts()
	told[0], told[2] = 77, 0
	_ = append(told[:1], 55, 55, 55)
	hasParts(t, "behind a change of what was told", a, 2, 3, 4)
	again := a.Parts()
	if &again[0] == &told[0] {
		t.Error("one list is told twice")
	}
	noughts := listed(8, 0, 0, 9)
	hasParts(t, "noughts at the end", nat.From(noughts[:3]), 8)
	if !slices.Equal(noughts, listed(8, 0, 0, 9)) || !slices.Equal(room, listed(99, 99, 99, 99, 99, 99)) {
		t.Error("what came in was changed:", noughts, room)
	}
}

func TestCmp(t *testing.T) {
	for _, c := range []struct {
		a, b nat.Nat
		want int
	}{
		{of(), of(), 0},
		{of(), of(1), -1},
		{of(5), of(5), 0},
		{of(4), of(5), -1},
		{of(half), of(1), 1},
		{of(full), of(0, 1), -1},
		{of(1, 2, 3), of(1, 2, 3), 0},
		{of(1, 2, 3), of(2, 2, 3), -1},
		{of(9, 2, 3), of(1, 2, 4), -1},
		{of(9, 9, 3), of(0, 0, half), -1},
		{of(1, 5, 3), of(2, 4, 3), 1},
		{of(full, full), of(0, 0, 1), -1},
		{of(0, 0, 0, 1), of(full, full, full), 1},
	} {
		if got := nat.Cmp(c.a, c.b); got != c.want {
			t.Error(c.a.Parts(), c.b.Parts(), "got", got)
		}
		if got := nat.Cmp(c.b, c.a); got != -c.want {
			t.Error(c.b.Parts(), c.a.Parts(), "got", got)
		}
	}
	for _, a := range numbers() {
		for _, b := range numbers() {
			if got, want := nat.Cmp(a, b), plain(a).Cmp(plain(b)); got != want {
				t.Error(a.Parts(), b.Parts(), "got", got, "want", want)
			}
		}
	}
}

func TestAdd(t *testing.T) {
	hasParts(t, "0 and 0", nat.Add(of(), of()))
	hasParts(t, "3 and 4", nat.Add(of(3), of(4)), 7)
	hasParts(t, "a carry that makes a part more", nat.Add(of(full), of(1)), 0, 1)
	hasParts(t, "a carry through all parts", nat.Add(repeated(full, 4), of(1)), 0, 0, 0, 0, 1)
	hasParts(t, "a carry that ends", nat.Add(of(full, full, 5), of(1)), 0, 0, 6)
	hasParts(t, "a carry from the highest part alone", nat.Add(of(1, half), of(2, half)), 3, 0, 1)
	hasParts(t, "all at their greatest", nat.Add(repeated(full, 3), repeated(full, 3)), full-1, full, full, 1)
	for _, a := range numbers() {
		for _, b := range numbers() {
			is(t, "Add", nat.Add(a, b), new(big.Int).Add(plain(a), plain(b)))
		}
	}
}

func TestSub(t *testing.T) {
	hasParts(t, "0 and 0", nat.Sub(of(), of()))
	hasParts(t, "4 and 3", nat.Sub(of(4), of(3)), 1)
	hasParts(t, "3 and 4", nat.Sub(of(3), of(4)), 1)
	hasParts(t, "of the same", nat.Sub(of(1, 2, 3), of(1, 2, 3)))
	hasParts(t, "of nothing", nat.Sub(of(), of(1, 2, 3)), 1, 2, 3)
	hasParts(t, "borrowed through all parts", nat.Sub(of(0, 0, 0, 0, 1), of(1)), full, full, full, full)
	hasParts(t, "the other way round", nat.Sub(of(1), of(0, 0, 0, 0, 1)), full, full, full, full)
	hasParts(t, "borrowed from the next one", nat.Sub(of(0, 0, 7), of(2, 1)), full-1, full-1, 6)
	hasParts(t, "the highest parts alike", nat.Sub(of(1, 9, 9), of(2, 8, 9)), full)
	for _, a := range numbers() {
		for _, b := range numbers() {
			x := new(big.Int).Sub(plain(a), plain(b))
			is(t, "Sub", nat.Sub(a, b), x.Abs(x))
		}
	}
}

func TestSum(t *testing.T) {
	hasParts(t, "none", nat.Sum())
	hasParts(t, "one", nat.Sum(of(1, 2, 3)), 1, 2, 3)
	hasParts(t, "noughts", nat.Sum(of(), nat.Nat{}, of()))
	hasParts(t, "three", nat.Sum(of(1), of(full, 1), of(0, 5, 1)), 0, 7, 1)
	hasParts(t, "many", nat.Sum(slices.Repeat([]nat.Nat{repeated(full, 2)}, 70000)...), 1<<32-70000, full, 69999)
	c := rand.New(rand.NewPCG(16, 2))
	for range 300 {
		l, want := []nat.Nat(nil), new(big.Int)
		for range c.IntN(40) {
			l = append(l, anyNat(c, 6))
			want.Add(want, plain(l[len(l)-1]))
		}
		before := parts(l)
		is(t, "Sum", nat.Sum(l...), want)
		if !isSame(before, parts(l)) {
			t.Fatal("what came in was changed")
		}
	}
	room := []nat.Nat{of(1), of(2), of(3)}
	hasParts(t, "behind a list's length", nat.Sum(room[:2]...), 3)
}

// parts is the parts of many numbers.
func parts(l []nat.Nat) [][]uint32 {
	var all [][]uint32
	for _, a := range l {
		all = append(all, a.Parts())
	}
	return all
}

// isSame tells whether all lists of one are those of the other.
func isSame(a, b [][]uint32) bool {
	return slices.EqualFunc(a, b, func(x, y []uint32) bool { return slices.Equal(x, y) })
}

func TestMul(t *testing.T) {
	hasParts(t, "6 times 7", nat.Mul(of(6), of(7)), 42)
	hasParts(t, "by 0", nat.Mul(of(1, 2, 3), of()))
	hasParts(t, "of 0", nat.Mul(nat.Nat{}, of(1, 2, 3)))
	hasParts(t, "by 1", nat.Mul(of(1, 2, 3), of(1)), 1, 2, 3)
	hasParts(t, "no part more", nat.Mul(of(0, 3), of(0, 5)), 0, 0, 15)
	hasParts(t, "one part at its greatest", nat.Mul(of(full), of(full)), 1, full-1)
	hasParts(t, "all at their greatest", nat.Mul(repeated(full, 3), repeated(full, 2)), 1, 0, full, full-1, full)
	for _, a := range numbers() {
		for _, b := range numbers() {
			is(t, "Mul", nat.Mul(a, b), new(big.Int).Mul(plain(a), plain(b)))
		}
	}
}

func TestTimes(t *testing.T) {
	hasParts(t, "by 0", of(1, 2, 3).Times(0))
	hasParts(t, "by 1", of(1, 2, 3).Times(1), 1, 2, 3)
	hasParts(t, "by 2^32", of(1, 2, 3).Times(1<<32), 0, 1, 2, 3)
	hasParts(t, "by 2^64 - 1", of(1).Times(math.MaxUint64), full, full)
	hasParts(t, "all at their greatest", repeated(full, 2).Times(math.MaxUint64), 1, 0, full-1, full)
	hasParts(t, "of 0", nat.Nat{}.Times(math.MaxUint64))
	for _, a := range numbers() {
		for _, x := range []uint64{0, 1, 2, 3, 10, full, 1 << 32, 1<<32 + 1, 1 << 63, math.MaxUint64 - 1, math.MaxUint64, 1e19} {
			is(t, "Times", a.Times(x), new(big.Int).Mul(plain(a), new(big.Int).SetUint64(x)))
		}
	}
}

// shifts is by how many bits numbers are shifted: about which something may change, and others.
var shifts = []int{0, 1, 2, 5, 16, 31, 32, 33, 63, 64, 65, 95, 96, 97, 127, 128, 129, 160, 161, 200, 320, 1000}

// noShifts is what counts as none.
var noShifts = []int{0, -1, -31, -32, -33, -64, math.MinInt + 1, math.MinInt, math.MinInt32, -1<<32 + 1, -1<<40 + 5}

func TestShl(t *testing.T) {
	hasParts(t, "by 1", of(half, 1).Shl(1), 0, 3)
	hasParts(t, "by 31", of(3, 1).Shl(31), half, half+1)
	hasParts(t, "by 32", of(3, 1).Shl(32), 0, 3, 1)
	hasParts(t, "by 33", of(3, half).Shl(33), 0, 6, 0, 1)
	hasParts(t, "by 64", of(3, 1).Shl(64), 0, 0, 3, 1)
	hasParts(t, "0 by 64", nat.Nat{}.Shl(64))
	for _, a := range numbers() {
		for _, n := range shifts {
			is(t, "Shl", a.Shl(n), new(big.Int).Lsh(plain(a), uint(n)))
		}
		for _, n := range noShifts {
			is(t, "Shl by less than 1", a.Shl(n), plain(a))
		}
	}
	if n := of(5).Shl(1 << 20); n.Bits() != 1<<20+3 || nat.Cmp(n.Shr(1<<20), of(5)) != 0 {
		t.Error("by many:", n.Bits())
	}
	for _, n := range []int{1 << 32, 1 << 40, math.MaxInt - 1, math.MaxInt} {
		hasParts(t, "0 by very many", nat.Nat{}.Shl(n))
	}
}

func TestDiv(t *testing.T) {
	for _, c := range []struct{ a, b, often, left nat.Nat }{
		{of(7), of(2), of(3), of(1)},
		{of(), of(2), of(), of()},
		{of(1, 2, 3), of(1), of(1, 2, 3), of()},
		{of(1, 2, 3), of(1, 2, 3), of(1), of()},
		{of(0, 2, 3), of(1, 2, 3), of(), of(0, 2, 3)},
		{of(1, 2), of(1, 2, 3), of(), of(1, 2)},
		{of(6, 0, 6), of(3), of(2, 0, 2), of()},
		{of(8, 0, 6), of(3), of(2, 0, 2), of(2)},
		{of(0, 1), of(2), of(half), of()},
		{repeated(full, 4), of(full), repeated(1, 4), of()},
		{repeated(full, 4), of(full, full), of(1, 0, 1), of()},
		{of(full, full, full, full), of(0, 1), repeated(full, 3), of(full)},
		{of(1, 2, 3, 4), of(0, 0, 1), of(3, 4), of(1, 2)},
		{of(1), of(), of(), of(1)},
		{of(1, 2, 3), nat.Nat{}, of(), of(1, 2, 3)},
		{of(), of(), of(), of()},
	} {
		often, left := nat.Div(c.a, c.b)
		hasParts(t, "how often", often, c.often.Parts()...)
		hasParts(t, "what is left", left, c.left.Parts()...)
	}
	for _, a := range numbers() {
		for _, b := range numbers() {
			isDivided(t, a, b)
		}
	}
}

// isDivided holds a quotient against 16.4's words.
func isDivided(t *testing.T, a, b nat.Nat) {
	t.Helper()
	often, left := nat.Div(a, b)
	x, y := plainDiv(plain(a), plain(b))
	is(t, "how often", often, x)
	is(t, "what is left", left, y)
}

// TestDivOfProducts: what is put together of a divisor, a quotient, and a rest, falls apart into them, with parts of the quotient that are 0 or at their greatest, and rests of 0 and of one less than the divisor.
func TestDivOfProducts(t *testing.T) {
	c := rand.New(rand.NewPCG(16, 3))
	for range 4000 {
		b, q := nat.Add(anyNat(c, 5), of(1)), anyNat(c, 5)
		for _, r := range []nat.Nat{of(), nat.Sub(b, of(1)), nat.Sub(b, b).Shl(3)} {
			often, left := nat.Div(nat.Add(nat.Mul(b, q), r), b)
			if nat.Cmp(often, q) != 0 || nat.Cmp(left, r) != 0 {
				t.Fatal(b.Parts(), q.Parts(), r.Parts(), "got", often.Parts(), left.Parts())
			}
		}
		isDivided(t, anyNat(c, 10), b)
	}
}

func TestShr(t *testing.T) {
	hasParts(t, "by 1", of(1, 3).Shr(1), half, 1)
	hasParts(t, "by 31", of(half, 3).Shr(31), 7)
	hasParts(t, "by 32", of(9, 3, 1).Shr(32), 3, 1)
	hasParts(t, "by 33", of(9, 3, 1).Shr(33), half+1)
	hasParts(t, "all but one bit", of(9, 3, 8).Shr(67), 1)
	hasParts(t, "all bits", of(9, 3, 8).Shr(68))
	hasParts(t, "all parts", of(9, 3, 8).Shr(96))
	hasParts(t, "more", of(9, 3, 8).Shr(97))
	hasParts(t, "0 by 1", nat.Nat{}.Shr(1))
	for _, a := range numbers() {
		for _, n := range append(slices.Clone(shifts), a.Bits(), a.Bits()+1, max(a.Bits()-1, 0)) {
			is(t, "Shr", a.Shr(n), new(big.Int).Rsh(plain(a), uint(n)))
		}
		for _, n := range noShifts {
			is(t, "Shr by less than 1", a.Shr(n), plain(a))
		}
		for _, n := range []int{1 << 32, 1<<32 + 1, 1 << 40, math.MaxInt - 1, math.MaxInt} {
			hasParts(t, "by very many", a.Shr(n))
		}
	}
}

func TestBits(t *testing.T) {
	for _, c := range []struct {
		a    nat.Nat
		want int
	}{
		{of(), 0},
		{nat.Nat{}, 0},
		{of(1), 1},
		{of(2), 2},
		{of(3), 2},
		{of(half - 1), 31},
		{of(half), 32},
		{of(full), 32},
		{of(0, 1), 33},
		{of(full, full), 64},
		{of(0, 0, 1), 65},
		{of(7, 7, 7, 7), 99},
	} {
		if got := c.a.Bits(); got != c.want {
			t.Error(c.a.Parts(), "got", got, "want", c.want)
		}
	}
	for _, a := range numbers() {
		if got, want := a.Bits(), plain(a).BitLen(); got != want {
			t.Error(a.Parts(), "got", got, "want", want)
		}
	}
}

func TestUint(t *testing.T) {
	for _, x := range []uint64{0, 1, 7, full, 1 << 32, 1<<32 + 5, 1 << 63, math.MaxUint64 - 1, math.MaxUint64} {
		if got, ok := nat.Of(x).Uint(); got != x || !ok {
			t.Error(x, "got", got, ok)
		}
	}
	for _, a := range []nat.Nat{of(0, 0, 1), of(1, 1, 1), repeated(full, 3), nat.Of(1).Shl(1000), nat.Add(nat.Of(math.MaxUint64), of(1))} {
		if _, ok := a.Uint(); ok {
			t.Error(a.Parts(), "has no room")
		}
	}
	for _, a := range numbers() {
		x := plain(a)
		if got, ok := a.Uint(); ok != x.IsUint64() || ok && got != x.Uint64() {
			t.Error(x, "got", got, ok)
		}
	}
}

func TestText(t *testing.T) {
	for _, c := range []struct {
		a    nat.Nat
		want string
	}{
		{nat.Nat{}, "0"},
		{of(0, 0), "0"},
		{of(1), "1"},
		{of(9), "9"},
		{of(10), "10"},
		{of(999_999_999), "999999999"},
		{of(1_000_000_000), "1000000000"},
		{of(full), "4294967295"},
		{of(0, 1), "4294967296"},
		{nat.Of(1_000_000_000_000_000_001), "1000000000000000001"},
		{nat.Of(5_000_000_007_000_000_000), "5000000007000000000"},
		{of(full, full), "18446744073709551615"},
		{of(0, 0, 1), "18446744073709551616"},
		{of(0, 0, 0, 1), "79228162514264337593543950336"},
	} {
		if got := c.a.Text(); got != c.want {
			t.Error("got", got, "want", c.want)
		}
	}
	for _, a := range numbers() {
		if got, want := a.Text(), plain(a).String(); got != want {
			t.Error("got", got, "want", want)
		}
	}
}

func TestTextOfPowersOfTen(t *testing.T) {
	a := nat.Of(1)
	for n := range 120 {
		if got, want := a.Text(), "1"+strings.Repeat("0", n); got != want {
			t.Error("got", got, "want", want)
		}
		if got, want := nat.Sub(a, nat.Of(1)).Text(), strings.Repeat("9", n); n > 0 && got != want {
			t.Error("got", got, "want", want)
		}
		if got, want := nat.Add(a, a.Times(100).Times(70)).Text(), "7001"+strings.Repeat("0", n); got != want {
			t.Error("got", got, "want", want)
		}
		a = a.Times(10)
	}
}

// TestNumbersStay: whatever is worked out of numbers, they stay what they are, and so do those that were worked out of them before.
func TestNumbersStay(t *testing.T) {
	all := numbers()
	c := rand.New(rand.NewPCG(16, 4))
	for range 400 {
		a, b := all[c.IntN(len(all))], all[c.IntN(len(all))]
		often, left := nat.Div(a, b)
		all = append(all, often, left, a.Shr(c.IntN(70)), a.Shr(0), b.Shl(-1), nat.Sum(b))
	}
	before := parts(all)
	for range 4000 {
		a, b := all[c.IntN(len(all))], all[c.IntN(len(all))]
		work(a, b, c.IntN(140)-5)
		work(a, a, c.IntN(140)-5)
	}
	if !isSame(before, parts(all)) {
		t.Error("numbers were changed")
	}
}

// work works everything out that there is of two numbers, writes to the lists that are told, and works on with what came of it.
func work(a, b nat.Nat, n int) {
	often, left := nat.Div(a, b)
	for _, x := range []nat.Nat{nat.Add(a, b), nat.Sub(a, b), nat.Sum(a, b, a), nat.Mul(a, b), a.Times(uint64(n)), a.Shl(n), a.Shr(n), often, left} {
		clear(x.Parts())
		clear(nat.From(x.Parts()).Parts())
		nat.Sub(x, a)
		nat.Div(x, b)
		x.Shl(1).Shr(2)
		x.Uint()
		x.Text()
	}
	nat.Cmp(a, b)
	a.Zero()
	a.Bits()
}

// TestLaws: what holds of all numbers holds of long ones, too.
func TestLaws(t *testing.T) {
	c := rand.New(rand.NewPCG(16, 5))
	for range 30 {
		a, b := anyNat(c, 300), anyNat(c, 200)
		is(t, "Mul", nat.Mul(a, b), new(big.Int).Mul(plain(a), plain(b)))
		isDivided(t, a, b)
		if got, want := a.Text(), plain(a).String(); got != want {
			t.Error("got", got, "want", want)
		}
		if nat.Cmp(nat.Sub(nat.Add(a, b), b), a) != 0 {
			t.Error("a sum less what came to it is not what was:", a.Parts(), b.Parts())
		}
	}
}

// TestWrongEnds: what is not promised ends, too.
func TestWrongEnds(t *testing.T) {
	for _, a := range []nat.Nat{of(1), of(half), repeated(full, 5)} {
		for _, n := range []int{math.MaxInt, math.MaxInt - 31, 1 << 60, 1 << 40, 1 << 35} {
			hasParts(t, "more than may be answered", a.Shl(n))
		}
	}
}

func TestExample(t *testing.T) {
	for what, got := range map[string]string{
		"Times": nat.Of(1 << 63).Times(6).Text(),
		"Mul":   nat.Mul(nat.Of(6), nat.Of(1<<63)).Text(),
		"Shl":   nat.Of(6).Shl(63).Text(),
		"Sum":   nat.Sum(slices.Repeat([]nat.Nat{nat.Of(1 << 63)}, 6)...).Text(),
	} {
		if got != "55340232221128654848" {
			t.Error(what, got)
		}
	}
}
