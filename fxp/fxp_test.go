package fxp_test

import (
	"math"
	"math/big"
	"math/rand/v2"
	"slices"
	"testing"

	"theodolite/fxp"
	"theodolite/wide"
)

var modes = []int{wide.Down, wide.Up, wide.Near, wide.Zero}

// noModes is modes that are none of the four.
var noModes = []int{-1, 4, 5, -4, 256, math.MinInt, math.MaxInt}

// places is places of the point: those within the ends, at them, and beyond them.
var places = []int{math.MinInt, -64, -1, 0, 1, 2, 16, 31, 32, 61, 62, 63, 64, 100, math.MaxInt}

// small is numbers about which something may change.
func small() []int64 {
	all := []int64{0, math.MinInt64, math.MinInt64 + 1, math.MinInt64 + 2, math.MaxInt64, math.MaxInt64 - 1}
	for _, x := range []int64{1, 2, 3, 5, 7, 1 << 16, 1<<31 - 1, 1 << 31, 1<<32 + 1, 1<<61 + 1, 1<<62 - 1, 1 << 62, 1<<62 + 1} {
		all = append(all, x, -x)
	}
	return all
}

// anyNumber is a number of up to 64 bits that looks like any.
func anyNumber(c *rand.Rand) int64 { return int64(c.Uint64()) >> c.IntN(64) }

// told is what a call tells: its number, and whether something was cut off.
type told struct {
	x   int64
	sat bool
}

// plainCut is 4.1's cutting off at the ends, word by word.
func plainCut(x *big.Int) told {
	if x.Cmp(big.NewInt(math.MaxInt64)) > 0 {
		return told{math.MaxInt64, true}
	}
	if x.Cmp(big.NewInt(math.MinInt64)) < 0 {
		return told{math.MinInt64, true}
	}
	return told{x.Int64(), false}
}

// plainRound is n divided by d, rounded by a mode that is one of the four.
func plainRound(n, d *big.Int, mode int) *big.Int {
	q := new(big.Rat).SetFrac(n, d)
	// Div rounds down here, as a Rat's lower part is above 0.
	down := new(big.Int).Div(q.Num(), q.Denom())
	up := new(big.Int).Neg(new(big.Int).Div(new(big.Int).Neg(q.Num()), q.Denom()))
	switch mode {
	case wide.Up:
		return up
	case wide.Near:
		under := new(big.Rat).Sub(q, new(big.Rat).SetInt(down))
		over := new(big.Rat).Sub(new(big.Rat).SetInt(up), q)
		if over.Cmp(under) <= 0 {
			return up
		}
	case wide.Zero:
		if up.CmpAbs(down) < 0 {
			return up
		}
	}
	return down
}

// plainPart is 4.2's Part, word by word.
func plainPart(a, b, c int64, mode int) told {
	n := new(big.Int).Mul(big.NewInt(a), big.NewInt(b))
	if c != 0 && slices.Contains(modes, mode) {
		if x := plainRound(n, big.NewInt(c), mode); x.IsInt64() {
			return told{x.Int64(), false}
		}
	}
	if n.Sign() < 0 && c >= 0 || n.Sign() >= 0 && c < 0 {
		return told{math.MinInt64, true}
	}
	return told{math.MaxInt64, true}
}

// plainPlace is 4.2's place of the point, and whether it was another one that was told.
func plainPlace(q int) (int, bool) {
	if q < 0 {
		return 0, true
	}
	if q > 62 {
		return 62, true
	}
	return q, false
}

// plainMul is 4.2's Mul.
func plainMul(a, b int64, q, mode int) told {
	p, off := plainPlace(q)
	want := plainPart(a, b, 1<<p, mode)
	want.sat = want.sat || off
	return want
}

// plainDiv is 4.2's Div.
func plainDiv(a, b int64, q, mode int) told {
	p, off := plainPlace(q)
	want := plainPart(a, 1<<p, b, mode)
	want.sat = want.sat || off
	return want
}

// plainScale is 4.2's Scale.
func plainScale(a int64, from, to, mode int) told {
	f, offFrom := plainPlace(from)
	p, offTo := plainPlace(to)
	want := plainPart(a, 1<<max(0, p-f), 1<<max(0, f-p), mode)
	want.sat = want.sat || offFrom || offTo
	return want
}

// tells fails if a call of a unit that has done nothing tells something else, or does not count once.
func tells(t *testing.T, want told, call func(u *fxp.Unit) int64, args ...any) {
	t.Helper()
	var u fxp.Unit
	if x := call(&u); x != want.x || u.Sat != want.sat || u.Count() != 1 {
		t.Error(args, "tells", x, u.Sat, u.Count(), "not", want.x, want.sat, 1)
	}
}

// 4.1: the ends are the numbers that the chapter says.
func TestEnds(t *testing.T) {
	if fxp.Max != math.MaxInt64 || fxp.Min != math.MinInt64 || fxp.MaxQ != 62 {
		t.Error(int64(fxp.Max), int64(fxp.Min), fxp.MaxQ)
	}
}

// 4.1: a zero Unit has done nothing.
func TestZeroUnit(t *testing.T) {
	var u fxp.Unit
	if u.Sat || u.Count() != 0 {
		t.Error(u.Sat, u.Count())
	}
}

// 4.1: sums: just within the ends, and just above and below them.
func TestAdd(t *testing.T) {
	for _, c := range []struct {
		a, b int64
		want told
	}{
		{0, 0, told{0, false}},
		{2, 3, told{5, false}},
		{-2, -3, told{-5, false}},
		{2, -3, told{-1, false}},
		{fxp.Max, 0, told{fxp.Max, false}},
		{fxp.Max - 1, 1, told{fxp.Max, false}},
		{fxp.Max, -1, told{fxp.Max - 1, false}},
		{fxp.Max, fxp.Min, told{-1, false}},
		{fxp.Min, 0, told{fxp.Min, false}},
		{fxp.Min + 1, -1, told{fxp.Min, false}},
		{-1 << 62, -1 << 62, told{fxp.Min, false}},
		{fxp.Max, 1, told{fxp.Max, true}},
		{1 << 62, 1 << 62, told{fxp.Max, true}},
		{fxp.Max, fxp.Max, told{fxp.Max, true}},
		{fxp.Min, -1, told{fxp.Min, true}},
		{-1 << 62, -1<<62 - 1, told{fxp.Min, true}},
		{fxp.Min, fxp.Min, told{fxp.Min, true}},
	} {
		tells(t, c.want, func(u *fxp.Unit) int64 { return u.Add(c.a, c.b) }, c.a, c.b)
		tells(t, c.want, func(u *fxp.Unit) int64 { return u.Add(c.b, c.a) }, c.b, c.a)
	}
}

// 4.1: differences: just within the ends, and just above and below them; the least number, taken away.
func TestSub(t *testing.T) {
	for _, c := range []struct {
		a, b int64
		want told
	}{
		{0, 0, told{0, false}},
		{2, 3, told{-1, false}},
		{3, 2, told{1, false}},
		{-2, -3, told{1, false}},
		{2, -3, told{5, false}},
		{fxp.Max, fxp.Max, told{0, false}},
		{fxp.Min, fxp.Min, told{0, false}},
		{-1, fxp.Min, told{fxp.Max, false}},
		{-2, fxp.Min, told{fxp.Max - 1, false}},
		{-1, fxp.Max, told{fxp.Min, false}},
		{0, fxp.Max, told{-fxp.Max, false}},
		{fxp.Max - 1, -1, told{fxp.Max, false}},
		{0, fxp.Min, told{fxp.Max, true}},
		{fxp.Max, fxp.Min, told{fxp.Max, true}},
		{fxp.Max, -1, told{fxp.Max, true}},
		{-2, fxp.Max, told{fxp.Min, true}},
		{fxp.Min, 1, told{fxp.Min, true}},
		{fxp.Min, fxp.Max, told{fxp.Min, true}},
	} {
		tells(t, c.want, func(u *fxp.Unit) int64 { return u.Sub(c.a, c.b) }, c.a, c.b)
	}
}

// 4.1: sums and differences of numbers about which something may change, and of such as look like any.
func TestAddSubAny(t *testing.T) {
	both := func(a, b int64) {
		t.Helper()
		x, y := big.NewInt(a), big.NewInt(b)
		sum, less := plainCut(new(big.Int).Add(x, y)), plainCut(new(big.Int).Sub(x, y))
		tells(t, sum, func(u *fxp.Unit) int64 { return u.Add(a, b) }, "Add", a, b)
		tells(t, less, func(u *fxp.Unit) int64 { return u.Sub(a, b) }, "Sub", a, b)
	}
	for _, a := range small() {
		for _, b := range small() {
			both(a, b)
		}
	}
	c := rand.New(rand.NewPCG(4, 1))
	for range 20000 {
		both(anyNumber(c), anyNumber(c))
		both(int64(c.Uint64()), int64(c.Uint64()))
	}
}

// 4.1: a number without its sign; that of the least one is cut off.
func TestAbs(t *testing.T) {
	for _, c := range []struct {
		a    int64
		want told
	}{
		{0, told{0, false}},
		{5, told{5, false}},
		{-5, told{5, false}},
		{-1, told{1, false}},
		{fxp.Max, told{fxp.Max, false}},
		{-fxp.Max, told{fxp.Max, false}},
		{fxp.Min + 2, told{fxp.Max - 1, false}},
		{fxp.Min, told{fxp.Max, true}},
	} {
		tells(t, c.want, func(u *fxp.Unit) int64 { return u.Abs(c.a) }, c.a)
	}
	for _, a := range small() {
		want := plainCut(new(big.Int).Abs(big.NewInt(a)))
		tells(t, want, func(u *fxp.Unit) int64 { return u.Abs(a) }, a)
	}
}

// deed is a call of a unit, and how many it counts as.
type deed struct {
	call  func(u *fxp.Unit) int64
	count int
}

// beyond is deeds of each kind that cut something off.
func beyond() []deed {
	return []deed{
		{func(u *fxp.Unit) int64 { return u.Add(fxp.Max, 1) }, 1},
		{func(u *fxp.Unit) int64 { return u.Add(fxp.Min, -1) }, 1},
		{func(u *fxp.Unit) int64 { return u.Sub(fxp.Min, 1) }, 1},
		{func(u *fxp.Unit) int64 { return u.Abs(fxp.Min) }, 1},
		{func(u *fxp.Unit) int64 { return u.Part(fxp.Max, 2, 1, wide.Down) }, 1},
		{func(u *fxp.Unit) int64 { return u.Part(1, 1, 0, wide.Down) }, 1},
		{func(u *fxp.Unit) int64 { return u.Part(1, 1, 1, 4) }, 1},
		{func(u *fxp.Unit) int64 { return u.Mul(fxp.Max, 2, 0, wide.Near) }, 1},
		{func(u *fxp.Unit) int64 { return u.Mul(1, 1, -1, wide.Near) }, 1},
		{func(u *fxp.Unit) int64 { return u.Div(1<<62, 1, 62, wide.Zero) }, 1},
		{func(u *fxp.Unit) int64 { return u.Div(0, 1, 63, wide.Zero) }, 1},
		{func(u *fxp.Unit) int64 { return u.Scale(2, 0, 62, wide.Up) }, 1},
		{func(u *fxp.Unit) int64 { return u.Scale(1, 63, 62, wide.Up) }, 1},
		{func(u *fxp.Unit) int64 { return fxp.Sum(u, fxp.Max, 1) }, 2},
		{func(u *fxp.Unit) int64 { return u.Dot([]int64{fxp.Max}, []int64{2}, 0, wide.Down) }, 2},
	}
}

// within fails if calls of each kind that cut nothing off tell something else, or change Sat, or do not count as they should.
func within(t *testing.T, u *fxp.Unit) {
	t.Helper()
	sat, n := u.Sat, u.Count()
	got := []int64{
		u.Add(1, 2), u.Sub(1, 2), u.Abs(-4), u.Part(6, 7, 2, wide.Down),
		u.Mul(3<<16, 5<<16, 16, wide.Down), u.Div(1<<16, 3<<16, 16, wide.Down), u.Scale(5, 0, 2, wide.Down),
		fxp.Sum(u, 1, 2, 3), u.Dot([]int64{1, 2}, []int64{3, 4}, 0, wide.Down),
	}
	if want := []int64{3, -1, 4, 21, 15 << 16, 21845, 20, 6, 11}; !slices.Equal(got, want) {
		t.Error(got, "not", want)
	}
	if u.Sat != sat {
		t.Error("Sat was", sat, "and is", u.Sat)
	}
	if u.Count() != n+7+3+4 {
		t.Error("Count was", n, "and is", u.Count())
	}
}

// 4.1: Sat stays set, and changes nothing of what comes behind it; what cuts nothing off does not set it.
func TestSatStays(t *testing.T) {
	for i, c := range beyond() {
		var u fxp.Unit
		within(t, &u)
		if u.Sat {
			t.Fatal("set by what is within the ends")
		}
		c.call(&u)
		if !u.Sat {
			t.Error(i, "not set")
		}
		within(t, &u)
		c.call(&u)
		within(t, &u)
	}
}

// 4.1: each counts once, whatever it does by others, and whether it was cut off or not.
func TestCount(t *testing.T) {
	var all fxp.Unit
	n := 0
	for i, c := range beyond() {
		var u fxp.Unit
		c.call(&u)
		c.call(&all)
		n += c.count
		if u.Count() != c.count || all.Count() != n {
			t.Error(i, u.Count(), c.count, all.Count(), n)
		}
	}
	within(t, &all)
}

// 4.1: neither asking for the count, nor Clamp, nor a Sum or Dot of nothing is counted.
func TestCountNothing(t *testing.T) {
	var u fxp.Unit
	u.Add(1, 2)
	for range 3 {
		u.Count()
		fxp.Clamp(5, 1, 2)
		fxp.Sum[int](&u)
		u.Dot(nil, nil, 0, wide.Down)
		u.Dot([]int64{1}, nil, 0, wide.Down)
	}
	if u.Count() != 1 || u.Sat {
		t.Error(u.Count(), u.Sat)
	}
}

// 4.1: what one unit does is nothing that another one has done.
func TestUnitsApart(t *testing.T) {
	var u, v fxp.Unit
	u.Add(fxp.Max, 1)
	u.Add(1, 2)
	if v.Sat || v.Count() != 0 {
		t.Error(v.Sat, v.Count())
	}
	w := u
	w.Add(1, 2)
	if !w.Sat || w.Count() != 3 || u.Count() != 2 {
		t.Error(w.Sat, w.Count(), u.Count())
	}
}

// 4.2: parts that have room, in each mode, and each sign on either side.
func TestPart(t *testing.T) {
	for _, c := range []struct {
		a, b, c int64
		want    [4]int64
	}{
		{7, 1, 2, [4]int64{3, 4, 4, 3}},
		{-7, 1, 2, [4]int64{-4, -3, -3, -3}},
		{7, -1, 2, [4]int64{-4, -3, -3, -3}},
		{7, 1, -2, [4]int64{-4, -3, -3, -3}},
		{-7, -1, 2, [4]int64{3, 4, 4, 3}},
		{-7, -1, -2, [4]int64{-4, -3, -3, -3}},
		{5, 2, 3, [4]int64{3, 4, 3, 3}},
		{-5, 2, 3, [4]int64{-4, -3, -3, -3}},
		{-4, 2, 3, [4]int64{-3, -2, -3, -2}},
		{0, 5, 3, [4]int64{0, 0, 0, 0}},
		{0, 5, -3, [4]int64{0, 0, 0, 0}},
		{fxp.Max, fxp.Max, fxp.Max, [4]int64{fxp.Max, fxp.Max, fxp.Max, fxp.Max}},
		{fxp.Min, fxp.Min, fxp.Min, [4]int64{fxp.Min, fxp.Min, fxp.Min, fxp.Min}},
		{fxp.Min, fxp.Max, fxp.Min, [4]int64{fxp.Max, fxp.Max, fxp.Max, fxp.Max}},
		{1 << 62, 6, 8, [4]int64{3 << 60, 3 << 60, 3 << 60, 3 << 60}},
	} {
		for _, mode := range modes {
			tells(t, told{c.want[mode], false}, func(u *fxp.Unit) int64 { return u.Part(c.a, c.b, c.c, mode) }, c.a, c.b, c.c, mode)
		}
	}
}

// 4.2: parts that have no room: by the sign of the product and that of c; where they lie just beside the ends it hangs on the mode.
func TestPartNoRoom(t *testing.T) {
	for _, c := range []struct {
		a, b, c int64
		mode    int
		want    told
	}{
		{fxp.Max, 2, 1, wide.Down, told{fxp.Max, true}},
		{fxp.Max, -2, 1, wide.Down, told{fxp.Min, true}},
		{-fxp.Max, 2, 1, wide.Down, told{fxp.Min, true}},
		{fxp.Max, 2, -1, wide.Down, told{fxp.Min, true}},
		{-fxp.Max, -2, 1, wide.Down, told{fxp.Max, true}},
		{-fxp.Max, 2, -1, wide.Down, told{fxp.Max, true}},
		{fxp.Max, -2, -1, wide.Down, told{fxp.Max, true}},
		{-fxp.Max, -2, -1, wide.Down, told{fxp.Min, true}},
		{fxp.Min, 1, -1, wide.Zero, told{fxp.Max, true}},
		{fxp.Min, -1, 1, wide.Zero, told{fxp.Max, true}},
		{fxp.Min, -1, -1, wide.Zero, told{fxp.Min, false}},
		{fxp.Min, 1, 1, wide.Zero, told{fxp.Min, false}},
		// Products that wrap in 64 bits: to 0, and to the other sign.
		{1 << 32, 1 << 32, 1, wide.Near, told{fxp.Max, true}},
		{1 << 32, -1 << 32, 1, wide.Near, told{fxp.Min, true}},
		{1 << 32, 1 << 31, 1, wide.Near, told{fxp.Max, true}},
		{1 << 32, 3 << 30, 1, wide.Near, told{fxp.Max, true}},
		{1 << 32, -3 << 30, 1, wide.Near, told{fxp.Min, true}},
		{1 << 32, -3 << 30, -1, wide.Near, told{fxp.Max, true}},
		// 2^63 + 1/2, 2^63 - 1/2, and -2^63 - 1/2.
		{274177, 67280421310721, 2, wide.Down, told{fxp.Max, true}},
		{6700417, 2753074036095, 2, wide.Down, told{fxp.Max, false}},
		{6700417, 2753074036095, 2, wide.Up, told{fxp.Max, true}},
		{6700417, 2753074036095, 2, wide.Near, told{fxp.Max, true}},
		{6700417, 2753074036095, 2, wide.Zero, told{fxp.Max, false}},
		{274177, -67280421310721, 2, wide.Down, told{fxp.Min, true}},
		{274177, -67280421310721, 2, wide.Up, told{fxp.Min, false}},
		{274177, 67280421310721, -2, wide.Near, told{fxp.Min, false}},
	} {
		tells(t, c.want, func(u *fxp.Unit) int64 { return u.Part(c.a, c.b, c.c, c.mode) }, c.a, c.b, c.c, c.mode)
	}
}

// 4.2: a quotient by 0, and each sign on the other side.
func TestByNought(t *testing.T) {
	for _, c := range []struct{ a, b, want int64 }{
		{1, 1, fxp.Max},
		{-1, -1, fxp.Max},
		{fxp.Min, fxp.Min, fxp.Max},
		{-1, 1, fxp.Min},
		{1, -1, fxp.Min},
		{fxp.Min, fxp.Max, fxp.Min},
		{0, 0, fxp.Max},
		{0, -1, fxp.Max},
		{-1, 0, fxp.Max},
		{1 << 32, 1 << 31, fxp.Max},
		{1 << 32, -1 << 32, fxp.Min},
	} {
		for _, mode := range append(slices.Clone(noModes), modes...) {
			tells(t, told{c.want, true}, func(u *fxp.Unit) int64 { return u.Part(c.a, c.b, 0, mode) }, c.a, c.b, mode)
		}
	}
	for _, q := range places {
		for _, mode := range append(slices.Clone(noModes), modes...) {
			for a, want := range map[int64]int64{0: fxp.Max, 1: fxp.Max, fxp.Max: fxp.Max, -1: fxp.Min, fxp.Min: fxp.Min} {
				tells(t, told{want, true}, func(u *fxp.Unit) int64 { return u.Div(a, 0, q, mode) }, "Div", a, q, mode)
			}
		}
	}
}

// 4.2: a mode that is none of the four is cut off, by the signs, even where there would be nothing to round.
func TestNoMode(t *testing.T) {
	for _, mode := range noModes {
		for _, c := range []struct{ a, b, c, want int64 }{
			{6, 1, 3, fxp.Max},
			{-6, 1, 3, fxp.Min},
			{6, -1, 3, fxp.Min},
			{6, 1, -3, fxp.Min},
			{-6, 1, -3, fxp.Max},
			{-6, -1, -3, fxp.Min},
			{0, 1, 3, fxp.Max},
			{0, -1, 3, fxp.Max},
			{0, 1, -3, fxp.Min},
			{-1, 0, -3, fxp.Min},
			{fxp.Max, -fxp.Max, 1, fxp.Min},
		} {
			tells(t, told{c.want, true}, func(u *fxp.Unit) int64 { return u.Part(c.a, c.b, c.c, mode) }, c.a, c.b, c.c, mode)
		}
		for a, want := range map[int64]int64{0: fxp.Max, 8: fxp.Max, -8: fxp.Min} {
			tells(t, told{want, true}, func(u *fxp.Unit) int64 { return u.Mul(a, 4, 2, mode) }, "Mul", a, mode)
			tells(t, told{want, true}, func(u *fxp.Unit) int64 { return u.Div(a, 4, 2, mode) }, "Div", a, mode)
			tells(t, told{want, true}, func(u *fxp.Unit) int64 { return u.Scale(a, 1, 2, mode) }, "Scale up", a, mode)
			tells(t, told{want, true}, func(u *fxp.Unit) int64 { return u.Scale(a, 2, 1, mode) }, "Scale down", a, mode)
			tells(t, told{want, true}, func(u *fxp.Unit) int64 { return u.Scale(a, 2, 2, mode) }, "Scale", a, mode)
		}
		tells(t, told{fxp.Min, true}, func(u *fxp.Unit) int64 { return u.Div(0, -4, 2, mode) }, "Div of 0", mode)
	}
}

// 4.2: parts of numbers about which something may change, and of such as look like any.
func TestPartAny(t *testing.T) {
	part := func(a, b, c int64, mode int) {
		t.Helper()
		tells(t, plainPart(a, b, c, mode), func(u *fxp.Unit) int64 { return u.Part(a, b, c, mode) }, a, b, c, mode)
	}
	for _, a := range small() {
		for _, b := range small() {
			for _, c := range []int64{0, 1, -1, 2, -3, 1 << 62, fxp.Max, fxp.Min} {
				for mode := -1; mode <= 4; mode++ {
					part(a, b, c, mode)
				}
			}
		}
	}
	c := rand.New(rand.NewPCG(4, 2))
	for range 20000 {
		part(anyNumber(c), anyNumber(c), anyNumber(c), c.IntN(6)-1)
	}
}

// The chapter's example, and others: products, and quotients, the point in a place.
func TestMulDivKnown(t *testing.T) {
	const one = 1 << 16
	for _, c := range []struct {
		a, b     int64
		q        int
		mul, div [4]int64
	}{
		{1 * one, 3 * one, 16, [4]int64{3 * one, 3 * one, 3 * one, 3 * one}, [4]int64{21845, 21846, 21845, 21845}},
		{-1 * one, 3 * one, 16, [4]int64{-3 * one, -3 * one, -3 * one, -3 * one}, [4]int64{-21846, -21845, -21845, -21845}},
		{2 * one, -3 * one, 16, [4]int64{-6 * one, -6 * one, -6 * one, -6 * one}, [4]int64{-43691, -43690, -43691, -43690}},
		{3, one / 2, 16, [4]int64{1, 2, 2, 1}, [4]int64{6, 6, 6, 6}},
		{-3, one / 2, 16, [4]int64{-2, -1, -1, -1}, [4]int64{-6, -6, -6, -6}},
		{-3, -one / 2, 16, [4]int64{1, 2, 2, 1}, [4]int64{6, 6, 6, 6}},
		{7, 2, 0, [4]int64{14, 14, 14, 14}, [4]int64{3, 4, 4, 3}},
		{7, -2, 0, [4]int64{-14, -14, -14, -14}, [4]int64{-4, -3, -3, -3}},
		{7, 2, 1, [4]int64{7, 7, 7, 7}, [4]int64{7, 7, 7, 7}},
		{3, 5, 1, [4]int64{7, 8, 8, 7}, [4]int64{1, 2, 1, 1}},
		{1, 1, 62, [4]int64{0, 1, 0, 0}, [4]int64{1 << 62, 1 << 62, 1 << 62, 1 << 62}},
		{1 << 62, 1 << 62, 62, [4]int64{1 << 62, 1 << 62, 1 << 62, 1 << 62}, [4]int64{1 << 62, 1 << 62, 1 << 62, 1 << 62}},
		{1 << 61, 1 << 62, 62, [4]int64{1 << 61, 1 << 61, 1 << 61, 1 << 61}, [4]int64{1 << 61, 1 << 61, 1 << 61, 1 << 61}},
	} {
		for _, mode := range modes {
			tells(t, told{c.mul[mode], false}, func(u *fxp.Unit) int64 { return u.Mul(c.a, c.b, c.q, mode) }, "Mul", c.a, c.b, c.q, mode)
			tells(t, told{c.div[mode], false}, func(u *fxp.Unit) int64 { return u.Div(c.a, c.b, c.q, mode) }, "Div", c.a, c.b, c.q, mode)
		}
	}
}

// 4.2: a q below 0 is 0, one above 62 is 62, and Sat is set, though what is told has room.
func TestPlaces(t *testing.T) {
	for _, c := range []struct {
		q, p int
		off  bool
	}{
		{0, 0, false}, {1, 1, false}, {61, 61, false}, {62, 62, false},
		{-1, 0, true}, {-2, 0, true}, {-62, 0, true}, {-64, 0, true}, {math.MinInt, 0, true},
		{63, 62, true}, {64, 62, true}, {65, 62, true}, {128, 62, true}, {math.MaxInt, 62, true},
	} {
		one := int64(1) << c.p
		tells(t, told{1, c.off}, func(u *fxp.Unit) int64 { return u.Mul(1, one, c.q, wide.Down) }, "Mul", c.q)
		tells(t, told{one, c.off}, func(u *fxp.Unit) int64 { return u.Mul(one, one, c.q, wide.Down) }, "Mul", c.q)
		tells(t, told{0, c.off}, func(u *fxp.Unit) int64 { return u.Mul(0, 0, c.q, wide.Down) }, "Mul", c.q)
		tells(t, told{one, c.off}, func(u *fxp.Unit) int64 { return u.Div(1, 1, c.q, wide.Down) }, "Div", c.q)
		tells(t, told{0, c.off}, func(u *fxp.Unit) int64 { return u.Div(0, 1, c.q, wide.Down) }, "Div", c.q)
		tells(t, told{one, c.off}, func(u *fxp.Unit) int64 { return u.Scale(1, 0, c.q, wide.Down) }, "Scale to", c.q)
		tells(t, told{1, c.off}, func(u *fxp.Unit) int64 { return u.Scale(one, c.q, 0, wide.Down) }, "Scale from", c.q)
		tells(t, told{5, c.off}, func(u *fxp.Unit) int64 { return u.Scale(5, c.q, c.q, wide.Down) }, "Scale both", c.q)
		tells(t, told{1 << (62 - c.p), c.off}, func(u *fxp.Unit) int64 { return u.Scale(1, c.q, 62, wide.Down) }, "Scale to 62", c.q)
	}
}

// 4.2: the place of each end counts for itself, and not how far they are apart.
func TestScalePlaces(t *testing.T) {
	for _, c := range []struct {
		from, to int
		want     told
	}{
		{60, 65, told{12, true}},
		{-5, 2, told{12, true}},
		{2, -5, told{0, true}},
		{65, 61, told{1, true}},
		{70, 66, told{3, true}},
		{-9, -7, told{3, true}},
		{-1, 63, told{fxp.Max, true}},
		{63, -1, told{0, true}},
		{math.MinInt, math.MaxInt, told{fxp.Max, true}},
		{math.MaxInt, math.MinInt, told{0, true}},
	} {
		tells(t, c.want, func(u *fxp.Unit) int64 { return u.Scale(3, c.from, c.to, wide.Down) }, c.from, c.to)
	}
}

// 4.2: the point further right, further left, and where it was, in each mode.
func TestScale(t *testing.T) {
	for _, c := range []struct {
		a        int64
		from, to int
		want     [4]int64
	}{
		{5, 16, 18, [4]int64{20, 20, 20, 20}},
		{-5, 16, 18, [4]int64{-20, -20, -20, -20}},
		{5, 18, 16, [4]int64{1, 2, 1, 1}},
		{6, 18, 16, [4]int64{1, 2, 2, 1}},
		{7, 18, 16, [4]int64{1, 2, 2, 1}},
		{-5, 18, 16, [4]int64{-2, -1, -1, -1}},
		{-6, 18, 16, [4]int64{-2, -1, -1, -1}},
		{-7, 18, 16, [4]int64{-2, -1, -2, -1}},
		{8, 18, 16, [4]int64{2, 2, 2, 2}},
		{7, 20, 20, [4]int64{7, 7, 7, 7}},
		{fxp.Min, 0, 0, [4]int64{fxp.Min, fxp.Min, fxp.Min, fxp.Min}},
		{fxp.Max, 62, 62, [4]int64{fxp.Max, fxp.Max, fxp.Max, fxp.Max}},
		{1, 0, 62, [4]int64{1 << 62, 1 << 62, 1 << 62, 1 << 62}},
		{-2, 0, 62, [4]int64{fxp.Min, fxp.Min, fxp.Min, fxp.Min}},
		{fxp.Max, 62, 0, [4]int64{1, 2, 2, 1}},
		{fxp.Min, 62, 0, [4]int64{-2, -2, -2, -2}},
		{1 << 62, 62, 0, [4]int64{1, 1, 1, 1}},
	} {
		for _, mode := range modes {
			tells(t, told{c.want[mode], false}, func(u *fxp.Unit) int64 { return u.Scale(c.a, c.from, c.to, mode) }, c.a, c.from, c.to, mode)
		}
	}
	for _, mode := range modes {
		tells(t, told{fxp.Max, true}, func(u *fxp.Unit) int64 { return u.Scale(2, 0, 62, mode) }, 2, mode)
		tells(t, told{fxp.Min, true}, func(u *fxp.Unit) int64 { return u.Scale(-3, 0, 62, mode) }, -3, mode)
		tells(t, told{fxp.Max, true}, func(u *fxp.Unit) int64 { return u.Scale(1<<62, 3, 4, mode) }, 1<<62, mode)
		tells(t, told{fxp.Min, false}, func(u *fxp.Unit) int64 { return u.Scale(-1<<62, 3, 4, mode) }, -1<<62, mode)
	}
}

// 4.2: all of them, of numbers and places about which something may change, and of such as look like any.
func TestPointAny(t *testing.T) {
	each := func(a, b int64, q, r, mode int) {
		t.Helper()
		tells(t, plainMul(a, b, q, mode), func(u *fxp.Unit) int64 { return u.Mul(a, b, q, mode) }, "Mul", a, b, q, mode)
		tells(t, plainDiv(a, b, q, mode), func(u *fxp.Unit) int64 { return u.Div(a, b, q, mode) }, "Div", a, b, q, mode)
		tells(t, plainScale(a, q, r, mode), func(u *fxp.Unit) int64 { return u.Scale(a, q, r, mode) }, "Scale", a, q, r, mode)
	}
	c := rand.New(rand.NewPCG(4, 3))
	for _, a := range small() {
		for _, q := range places {
			for _, r := range places {
				each(a, small()[c.IntN(len(small()))], q, r, c.IntN(6)-1)
			}
		}
	}
	for range 20000 {
		each(anyNumber(c), anyNumber(c), c.IntN(70)-4, c.IntN(70)-4, c.IntN(6)-1)
	}
}

// Types of others' own, which Sum and Clamp take as well.
type (
	steps  int
	short  int16
	metres int32
	parts  int64
)

// 4.3: sums of each type, one of several, and none.
func TestSum(t *testing.T) {
	var u fxp.Unit
	for _, c := range []struct{ got, want int64 }{
		{fxp.Sum(&u, 1, 2, 3), 6},
		{fxp.Sum(&u, int32(3), -5), -2},
		{fxp.Sum(&u, int64(1)<<40, 1), 1<<40 + 1},
		{fxp.Sum(&u, steps(-4), 5), 1},
		{fxp.Sum(&u, metres(math.MaxInt32), 1), 1 << 31},
		{fxp.Sum(&u, int32(math.MinInt32), math.MinInt32), -1 << 32},
		{fxp.Sum(&u, parts(7)), 7},
		{fxp.Sum(&u, []int64{4, 5, -6}...), 3},
		{fxp.Sum[int](&u), 0},
		{fxp.Sum[metres](&u), 0},
		{fxp.Sum(&u, []int64(nil)...), 0},
		{fxp.Sum(&u, []int32{}...), 0},
	} {
		if c.got != c.want {
			t.Error(c.got, "not", c.want)
		}
	}
	if u.Sat || u.Count() != 3+2+2+2+2+2+1+3 {
		t.Error(u.Sat, u.Count())
	}
}

// 4.3: each sum is cut off by itself, from the first one to the last one.
func TestSumCutOff(t *testing.T) {
	for _, c := range []struct {
		l    []int64
		want told
	}{
		{[]int64{fxp.Max, 1, -1}, told{fxp.Max - 1, true}},
		{[]int64{fxp.Max, -1, 1}, told{fxp.Max, false}},
		{[]int64{-1, fxp.Max, 1}, told{fxp.Max, false}},
		{[]int64{fxp.Min, -5, 7}, told{fxp.Min + 7, true}},
		{[]int64{fxp.Min, 7, -5}, told{fxp.Min + 2, false}},
		{[]int64{fxp.Min, fxp.Min, fxp.Max, fxp.Max}, told{fxp.Max - 1, true}},
		{[]int64{fxp.Max, fxp.Max, fxp.Min}, told{-1, true}},
		{[]int64{fxp.Min}, told{fxp.Min, false}},
	} {
		var u fxp.Unit
		l := slices.Clone(c.l)
		if x := fxp.Sum(&u, l...); x != c.want.x || u.Sat != c.want.sat || u.Count() != len(l) {
			t.Error(c.l, x, u.Sat, u.Count())
		}
		if !slices.Equal(l, c.l) {
			t.Error(c.l, "was changed to", l)
		}
	}
}

// 4.3: Sum is Add, one by one, whatever it is given.
func TestSumAny(t *testing.T) {
	c := rand.New(rand.NewPCG(4, 4))
	for range 3000 {
		l := make([]int64, c.IntN(8))
		for i := range l {
			l[i] = anyNumber(c)
		}
		var u, v fxp.Unit
		var want int64
		for _, x := range l {
			want = v.Add(want, x)
		}
		if x := fxp.Sum(&u, l...); x != want || u.Sat != v.Sat || u.Count() != v.Count() {
			t.Error(l, x, u.Sat, u.Count())
		}
	}
}

// 4.3: products of numbers side by side, as far as both rows go, each rounded by itself.
func TestDot(t *testing.T) {
	for _, c := range []struct {
		a, b    []int64
		q, mode int
		want    told
		count   int
	}{
		{nil, nil, 16, wide.Down, told{0, false}, 0},
		{[]int64{}, []int64{1}, 16, wide.Down, told{0, false}, 0},
		{[]int64{1}, nil, 16, wide.Down, told{0, false}, 0},
		{[]int64{1, 2, 3}, []int64{4, 5, 6}, 0, wide.Down, told{32, false}, 6},
		{[]int64{1, 2, 3}, []int64{4, 5}, 0, wide.Down, told{14, false}, 4},
		{[]int64{1}, []int64{4, 5, 6}, 0, wide.Down, told{4, false}, 2},
		{[]int64{1, fxp.Max}, []int64{-4}, 0, wide.Down, told{-4, false}, 2},
		{[]int64{1 << 16, 2 << 16}, []int64{3 << 15, -1 << 14}, 16, wide.Down, told{1 << 16, false}, 4},
		{[]int64{1, 1, 1}, []int64{1, 1, 1}, 1, wide.Down, told{0, false}, 6},
		{[]int64{1, 1, 1}, []int64{1, 1, 1}, 1, wide.Up, told{3, false}, 6},
		{[]int64{1, 1, 1}, []int64{1, 1, 1}, 1, wide.Near, told{3, false}, 6},
		{[]int64{1, 1, -1}, []int64{1, 1, 1}, 1, wide.Near, told{2, false}, 6},
		{[]int64{1, 1, -1}, []int64{1, 1, 1}, 1, wide.Zero, told{0, false}, 6},
		{[]int64{1, 1, -1}, []int64{1, 1, 1}, 1, wide.Down, told{-1, false}, 6},
		{[]int64{fxp.Max, 1, -1}, []int64{1, 1, 1}, 0, wide.Down, told{fxp.Max - 1, true}, 6},
		{[]int64{fxp.Max, -1}, []int64{2, 1}, 0, wide.Down, told{fxp.Max - 1, true}, 4},
		{[]int64{fxp.Min, 1}, []int64{2, 9}, 0, wide.Down, told{fxp.Min + 9, true}, 4},
		{[]int64{1, 2}, []int64{3, 4}, -1, wide.Down, told{11, true}, 4},
		{[]int64{1 << 31}, []int64{1 << 31}, 63, wide.Down, told{1, true}, 2},
		{[]int64{1, 2}, []int64{3, -4}, 0, 4, told{-1, true}, 4},
		{nil, nil, -1, wide.Down, told{0, false}, 0},
		{nil, []int64{1}, 63, 4, told{0, false}, 0},
	} {
		var u fxp.Unit
		a, b := slices.Clone(c.a), slices.Clone(c.b)
		if x := u.Dot(a, b, c.q, c.mode); x != c.want.x || u.Sat != c.want.sat || u.Count() != c.count {
			t.Error(c.a, c.b, c.q, c.mode, x, u.Sat, u.Count())
		}
		if !slices.Equal(a, c.a) || !slices.Equal(b, c.b) {
			t.Error(c.a, c.b, "were changed to", a, b)
		}
	}
}

// 4.3 and R3: what lies behind a row's length is neither read nor written.
func TestDotBehind(t *testing.T) {
	var u fxp.Unit
	a, b := []int64{2, fxp.Max, 7}, []int64{3, 5, 8}
	if x := u.Dot(a[:1], b, 0, wide.Down); x != 6 || u.Sat {
		t.Error(x, u.Sat)
	}
	if x := u.Dot(b, a[:1], 0, wide.Down); x != 6 || u.Sat {
		t.Error(x, u.Sat)
	}
	if x := fxp.Sum(&u, a[:1]...); x != 2 || u.Sat {
		t.Error(x, u.Sat)
	}
	if !slices.Equal(a, []int64{2, fxp.Max, 7}) || !slices.Equal(b, []int64{3, 5, 8}) {
		t.Error(a, b)
	}
}

// 4.3: Dot is Add and Mul, two by two, whatever it is given.
func TestDotAny(t *testing.T) {
	c := rand.New(rand.NewPCG(4, 5))
	row := func() []int64 {
		l := make([]int64, c.IntN(6))
		for i := range l {
			l[i] = anyNumber(c)
		}
		return l
	}
	for range 3000 {
		a, b, q, mode := row(), row(), c.IntN(68)-3, c.IntN(6)-1
		var u, v fxp.Unit
		var want int64
		for i := 0; i < len(a) && i < len(b); i++ {
			want = v.Add(want, v.Mul(a[i], b[i], q, mode))
		}
		if x := u.Dot(a, b, q, mode); x != want || u.Sat != v.Sat || u.Count() != v.Count() {
			t.Error(a, b, q, mode, x, u.Sat, u.Count())
		}
	}
}

// clamped fails if a type's Clamp is not what 4.4 says.
func clamped[T ~int | ~int16 | ~int32 | ~int64](t *testing.T, x, lo, hi, want T) {
	t.Helper()
	if got := fxp.Clamp(x, lo, hi); got != want {
		t.Error(x, lo, hi, "is", got, "not", want)
	}
}

// 4.4: between both, at them, and beyond them; a lo that is greater than hi goes ahead.
func TestClamp(t *testing.T) {
	for _, c := range []struct{ x, lo, hi, want int64 }{
		{5, 1, 9, 5}, {1, 1, 9, 1}, {9, 1, 9, 9}, {0, 1, 9, 1}, {10, 1, 9, 9},
		{-5, -9, -1, -5}, {-10, -9, -1, -9}, {0, -9, -1, -1},
		{4, 7, 7, 7}, {7, 7, 7, 7}, {8, 7, 7, 7},
		{5, 9, 1, 9}, {0, 9, 1, 9}, {10, 9, 1, 9}, {1, 9, 1, 9}, {9, 9, 1, 9},
		{-5, 3, -3, 3}, {0, 3, -3, 3}, {5, 3, -3, 3},
	} {
		clamped(t, c.x, c.lo, c.hi, c.want)
		clamped(t, parts(c.x), parts(c.lo), parts(c.hi), parts(c.want))
		clamped(t, int(c.x), int(c.lo), int(c.hi), int(c.want))
		clamped(t, steps(c.x), steps(c.lo), steps(c.hi), steps(c.want))
		clamped(t, int32(c.x), int32(c.lo), int32(c.hi), int32(c.want))
		clamped(t, metres(c.x), metres(c.lo), metres(c.hi), metres(c.want))
		clamped(t, int16(c.x), int16(c.lo), int16(c.hi), int16(c.want))
		clamped(t, short(c.x), short(c.lo), short(c.hi), short(c.want))
	}
	clamped[int64](t, fxp.Min, fxp.Min, fxp.Max, fxp.Min)
	clamped[int64](t, fxp.Max, fxp.Min, fxp.Max, fxp.Max)
	clamped[int64](t, 0, fxp.Max, fxp.Min, fxp.Max)
	clamped[int64](t, fxp.Min, fxp.Max, fxp.Min, fxp.Max)
	clamped[int64](t, fxp.Max, 0, 0, 0)
	clamped[int16](t, math.MinInt16, 0, math.MaxInt16, 0)
	clamped[int32](t, math.MaxInt32, math.MinInt32, -1, -1)
}

// 4.4: the words, for any numbers.
func TestClampAny(t *testing.T) {
	for _, x := range small() {
		for _, lo := range small() {
			for _, hi := range small() {
				want := x
				if hi < x {
					want = hi
				}
				if lo > want {
					want = lo
				}
				clamped(t, x, lo, hi, want)
			}
		}
	}
}

// thereAndBack fails if a number with the point further right is not the same when it comes back, though nothing was cut off.
func thereAndBack(t *testing.T, a int64, from, to, mode, backMode int) {
	t.Helper()
	var u fxp.Unit
	there := u.Scale(a, from, to, mode)
	if u.Sat {
		return
	}
	if back := u.Scale(there, to, from, backMode); back != a || u.Sat {
		t.Error(a, from, to, mode, backMode, "is", there, "there, and", back, "back")
	}
}

// 4.5: from each place to each one that is further right, by any modes.
func TestThereAndBack(t *testing.T) {
	for from := range fxp.MaxQ + 1 {
		for to := from; to <= fxp.MaxQ; to++ {
			for i, a := range small() {
				thereAndBack(t, a, from, to, modes[i%4], modes[(from+to)%4])
			}
		}
	}
	c := rand.New(rand.NewPCG(4, 6))
	for range 20000 {
		from := c.IntN(63)
		to := from + c.IntN(63-from)
		a := anyNumber(c) >> (to - from)
		thereAndBack(t, a, from, to, c.IntN(4), c.IntN(4))
	}
}

// 4.5: just what has room is there and back the same; what has none is cut off, and tells so.
func TestThereRoom(t *testing.T) {
	for by := range 63 {
		for _, mode := range modes {
			top, low := int64(fxp.Max)>>by, int64(fxp.Min)>>by
			for a, sat := range map[int64]bool{top: false, low: false, top + 1: true, low - 1: true} {
				if by == 0 && sat { // nothing is beyond the ends
					continue
				}
				var u fxp.Unit
				back := u.Scale(u.Scale(a, 0, by, mode), by, 0, mode)
				if u.Sat != sat || !sat && back != a {
					t.Error(a, by, mode, back, u.Sat)
				}
			}
		}
	}
}
