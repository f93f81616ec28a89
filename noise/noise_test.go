package noise_test

import (
	"math"
	"math/big"
	"math/rand/v2"
	"slices"
	"testing"

	"theodolite/api"
	"theodolite/expo"
	"theodolite/noise"
)

const (
	one  = 65536
	most = 40 * one // the greatest Power
	hi   = math.MaxInt64
	lo   = math.MinInt64
)

// at is a right noise of these, by a gate of 4.
func at(sigma, floor int64) api.Noise { return api.Noise{Sigma: sigma, Floor: floor, Gate: 4} }

// sigmas, floors and gates are right ones: the ends, what is next to them, and others.
var (
	sigmas = []int64{1, 2, 3, 7, 16, 159, 160, 1000, 46341, 65535, 65536, 1<<20 - 1, 1 << 20}
	floors = []int64{1, 2, 655, 656, 8192, 16383, 16384}
	gates  = []int64{1, 2, 4, 15, 16}
)

// wrong is numbers that neither Sigma, nor Floor, nor Gate may be: those next to the ends of each, the ends of 64 bits, and such as would be right were they cut off.
var wrong = []int64{lo, lo + 1, lo + 160, -1 << 40, -1<<32 + 1, -65536, -160, -4, -1, 0, 1<<20 + 1, 1 << 32, 1<<32 + 4, 1<<62 + 1, hi - 1, hi}

// wrongFloors and wrongGates are such as are wrong there, though right as a Sigma.
var (
	wrongFloors = append([]int64{16385, 65536, 1 << 20}, wrong...)
	wrongGates  = append([]int64{17, 160, 65536, 1 << 20}, wrong...)
)

// wrongNoises is noises in which one, two, or all three are wrong.
func wrongNoises() []api.Noise {
	var all []api.Noise
	for _, s := range wrong {
		all = append(all, api.Noise{Sigma: s, Floor: 655, Gate: 4}, api.Noise{Sigma: s, Floor: s, Gate: s})
		all = append(all, api.Noise{Sigma: s, Floor: s, Gate: 4}, api.Noise{Sigma: s, Floor: 655, Gate: s})
	}
	for _, f := range wrongFloors {
		all = append(all, api.Noise{Sigma: 160, Floor: f, Gate: 4}, api.Noise{Sigma: 160, Floor: f, Gate: f})
	}
	for _, g := range wrongGates {
		all = append(all, api.Noise{Sigma: 160, Floor: 655, Gate: g})
	}
	return all
}

// distances is differences, without a sign, about all places at which something may change for a noise of that Sigma, up to the end of 64 bits, and such of which the square wraps to a small number.
func distances(sigma int64) []int64 {
	all := []int64{0, 1, 2, 3, 1 << 31, 1 << 32, 1<<32 + 1, 3 << 32, 1 << 33, 1 << 40, 1 << 62, 1<<62 + 160, hi - 1, hi}
	for times := range int64(40) {
		all = append(all, max(times*sigma-1, 0), times*sigma, times*sigma+1, times*sigma+sigma/2)
	}
	top := reached(sigma)
	all = append(all, top-1, top, top+1)
	slices.Sort(all)
	return slices.Compact(all)
}

// reached is the least difference of which the Power is 40 times One: the least whose square, times 47274, is no less than what is rounded up to that of Sigma's square.
func reached(sigma int64) int64 {
	from, to := int64(0), 32*sigma
	for from < to {
		mid := (from + to) / 2
		if plainPower(sigma, mid) >= most {
			to = mid
		} else {
			from = mid + 1
		}
	}
	return from
}

// nearest is a times b, divided by c, rounded to the nearer number, the greater one of two.
func nearest(a, b, c *big.Int) int64 {
	n := new(big.Int).Mul(a, b)
	n.Lsh(n, 1).Add(n, c)
	return n.Div(n, new(big.Int).Lsh(c, 1)).Int64()
}

// plainPower is 13.2's Power of a right noise, word by word, but without a look at whether d is more than 32 times Sigma: by then it is 40 times One anyway.
func plainPower(sigma, d int64) int64 {
	square := func(x int64) *big.Int { return new(big.Int).Mul(big.NewInt(x), big.NewInt(x)) }
	all := nearest(square(d), big.NewInt(47274), square(sigma))
	if new(big.Int).Quo(square(d), square(sigma)).Cmp(big.NewInt(1024)) > 0 {
		return most
	}
	return min(all, most)
}

// plainWeight is 13.3's Weight of a right noise, word by word.
func plainWeight(n api.Noise, d int64) int64 {
	e, _ := expo.Exp(plainPower(n.Sigma, d))
	return nearest(new(big.Int).SetUint64(e), big.NewInt(65536-n.Floor), big.NewInt(1<<32)) + n.Floor
}

// plainLog is 13.3's Log of a right noise, word by word.
func plainLog(n api.Noise, d int64) int64 {
	l, _ := expo.Log(uint64(plainWeight(n, d)))
	return l - 16*one
}

// told fails if Power, Weight or Log of a right noise, to either side, is not what 13.2 and 13.3 say.
func told(t *testing.T, n api.Noise, d int64) {
	t.Helper()
	for _, d := range []int64{d, -d} {
		if p, want := noise.Power(n, d), plainPower(n.Sigma, d); p != want {
			t.Errorf("%v: the Power of %d is %d, not %d", n, d, p, want)
		}
		if w, want := noise.Weight(n, d), plainWeight(n, d); w != want {
			t.Errorf("%v: the Weight of %d is %d, not %d", n, d, w, want)
		}
		if l, want := noise.Log(n, d), plainLog(n, d); l != want {
			t.Errorf("%v: the Log of %d is %d, not %d", n, d, l, want)
		}
	}
}

// anyNoise is a right noise that may be any.
func anyNoise(c *rand.Rand) api.Noise {
	return api.Noise{Sigma: 1 + c.Int64N(1<<20)>>c.IntN(20), Floor: 1 + c.Int64N(16384)>>c.IntN(14), Gate: 1 + c.Int64N(16)}
}

// 13.1: the greatest ones.
func TestLimits(t *testing.T) {
	if noise.MaxSigma != 1<<20 || noise.MaxFloor != 16384 || noise.MaxGate != 16 {
		t.Error(noise.MaxSigma, noise.MaxFloor, noise.MaxGate)
	}
}

// 13.1: all right ones, and the ends of each.
func TestCheckRight(t *testing.T) {
	for _, s := range sigmas {
		for _, f := range floors {
			for _, g := range gates {
				n := api.Noise{Sigma: s, Floor: f, Gate: g}
				if code := noise.Check(n); code != api.OK {
					t.Error(n, code)
				}
			}
		}
	}
}

// 13.1: one wrong one, and several at once.
func TestCheckWrong(t *testing.T) {
	for _, n := range append(wrongNoises(), api.Noise{}) {
		if code := noise.Check(n); code != api.ErrRange {
			t.Error(n, code)
		}
	}
	for _, s := range wrong {
		for _, f := range wrongFloors {
			for _, g := range wrongGates {
				n := api.Noise{Sigma: s, Floor: f, Gate: g}
				if code := noise.Check(n); code != api.ErrRange {
					t.Error(n, code)
				}
			}
		}
	}
}

// 13.2: powers that are known: of 0, of one deviation and of others, where it lies just at a half, where 40 times One is reached, at 32 times Sigma and beyond, and at the ends.
func TestPowerKnown(t *testing.T) {
	for _, c := range []struct{ sigma, d, want int64 }{
		{160, 0, 0},
		{160, 1, 2},
		{160, 80, 11819},
		{160, 159, 46685},
		{160, 160, 47274},
		{160, 161, 47867},
		{160, 320, 189096},
		{160, 640, 756384},
		{1, 0, 0},
		{1, 1, 47274},
		{1, 2, 189096},
		{1 << 20, 0, 0},
		{1 << 20, 1 << 20, 47274},
		{1 << 20, 1 << 21, 189096},
		// 11818 and a half, and that and 94548 more.
		{2, 1, 11819},
		{2, 3, 106367},
		{6, 3, 11819},
		{1 << 20, 1 << 19, 11819},
		// Just below a half, and just above.
		{1 << 20, 1<<19 - 5, 11818},
		{1 << 20, 1<<19 + 5, 11819},
		{1 << 20, 3410, 0},
		{1 << 20, 3411, 1},
		// 40 times One is reached.
		{1, 7, 2316426},
		{1, 8, most},
		{2, 14, 2316426},
		{2, 15, most},
		{160, 1191, 2619425},
		{160, 1192, most},
		{1000, 7446, 2621008},
		{1000, 7447, most},
		{1 << 20, 7808338, 2621439},
		{1 << 20, 7808339, most},
		{1 << 20, 7808340, most},
		// 32 times Sigma.
		{1, 32, most},
		{1, 33, most},
		{160, 5119, most},
		{160, 5120, most},
		{160, 5121, most},
		{1 << 20, 1<<25 - 1, most},
		{1 << 20, 1 << 25, most},
		{1 << 20, 1<<25 + 1, most},
		// Such as have squares that wrap, and the ends.
		{160, 1 << 31, most},
		{160, 1 << 32, most},
		{160, 1<<32 + 1, most},
		{1 << 20, 1 << 33, most},
		{1, 3037000500, most},
		{1, hi, most},
		{1 << 20, hi, most},
	} {
		n := at(c.sigma, 655)
		if p, q := noise.Power(n, c.d), noise.Power(n, -c.d); p != c.want || q != c.want {
			t.Errorf("%d of %d: %d, and %d, not %d", c.d, c.sigma, p, q, c.want)
		}
		if p := noise.Power(n, lo); p != most {
			t.Errorf("the least number of %d: %d", c.sigma, p)
		}
	}
}

// 13.2: neither the floor nor the gate changes a power.
func TestPowerAlone(t *testing.T) {
	for _, f := range floors {
		for _, g := range gates {
			if p := noise.Power(api.Noise{Sigma: 160, Floor: f, Gate: g}, 320); p != 189096 {
				t.Error(f, g, p)
			}
		}
	}
}

// 13.2, 13.3: of a wrong noise it is always the same that is told, whatever the difference is.
func TestWrong(t *testing.T) {
	for _, n := range append(wrongNoises(), api.Noise{}) {
		for _, d := range []int64{0, 1, -1, 160, -160, 5120, 5121, 1 << 32, -1 << 32, n.Sigma, -n.Sigma, 32 * n.Sigma, hi, lo + 1, lo} {
			if p := noise.Power(n, d); p != most {
				t.Errorf("%v: the Power of %d is %d", n, d, p)
			}
			if w := noise.Weight(n, d); w != 0 {
				t.Errorf("%v: the Weight of %d is %d", n, d, w)
			}
			if l := noise.Log(n, d); l != -most {
				t.Errorf("%v: the Log of %d is %d", n, d, l)
			}
		}
	}
}

// 13.2, 13.3: all three, of all right ones, about all places at which something may change.
func TestToldEdges(t *testing.T) {
	for _, s := range sigmas {
		for _, f := range floors {
			for _, d := range distances(s) {
				told(t, at(s, f), d)
			}
			for _, d := range []int64{lo, lo + 1} {
				if w, l := noise.Weight(at(s, f), d), noise.Log(at(s, f), d); w != f || l != plainLog(at(s, f), hi) {
					t.Errorf("%d, %d: %d, %d", s, f, w, l)
				}
			}
		}
	}
}

// 13.2, 13.3: all three, of any.
func TestToldAny(t *testing.T) {
	c := rand.New(rand.NewPCG(13, 2))
	for range 20000 {
		n := anyNoise(c)
		told(t, n, c.Int64N(9*n.Sigma))
		told(t, n, c.Int64N(40*n.Sigma))
		told(t, n, c.Int64()>>c.IntN(63))
	}
}

// 13.3: the chapter's example, and others: of 0 all, of more less, up to where the floor alone is left.
func TestWeightKnown(t *testing.T) {
	for _, c := range []struct{ sigma, floor, d, want int64 }{
		{160, 655, 0, 65536},
		{160, 655, 160, 40007},
		{160, 655, 320, 9436},
		{160, 655, 1191, 655},
		{160, 655, 1192, 655},
		{160, 655, 5120, 655},
		{160, 655, 5121, 655},
		{160, 655, hi, 655},
		{160, 655, 1 << 32, 655},
		{160, 1, 0, 65536},
		{160, 1, 1192, 1},
		{160, 16384, 0, 65536},
		{160, 16384, 1192, 16384},
		{1, 1, 0, 65536},
		{1, 1, 1, 39750},
		{1, 16384, 1, 46196},
		{1 << 20, 655, 1, 65536},
		{1 << 20, 655, 1 << 20, 40007},
		// Half of what the floor leaves, where that is odd: 32440 and a half, and the floor; and where it is even.
		{1 << 20, 655, 1234607, 33096},
		{1 << 20, 1, 1234607, 32769},
		{1 << 20, 656, 1234607, 33096},
		// A quarter, of which the rest is a half: 16220 and a half, and the floor.
		{1 << 20, 654, 1745997, 16875},
		{1 << 20, 650, 1745997, 16872},
		// So little below a half, and so little above, that a divisor of 1 more, or of 1 less, would tell another one.
		{1 << 20, 6442, 9971, 65533},
		{1 << 20, 1571, 19941, 65524},
		{1 << 20, 10381, 11965, 65533},
		{1 << 20, 9251, 21935, 65524},
	} {
		n := at(c.sigma, c.floor)
		if w, v := noise.Weight(n, c.d), noise.Weight(n, -c.d); w != c.want || v != c.want {
			t.Errorf("%d of %d by %d: %d, and %d, not %d", c.d, c.sigma, c.floor, w, v, c.want)
		}
	}
}

// 13.3: a Weight that lies just at a half is the greater one: where the bell leaves a half, a quarter, and so on of what the floor leaves.
func TestWeightHalf(t *testing.T) {
	met := 0
	for power := int64(1); power <= 12; power++ {
		// The first one whose Power is so many times One, exactly.
		d := int64(math.Sqrt(float64(power*one)/47274) * (1 << 20))
		if noise.Power(at(1<<20, 1), d) != power*one {
			t.Error(power, d, noise.Power(at(1<<20, 1), d))
			continue
		}
		for floor := int64(1); floor <= noise.MaxFloor; floor++ {
			left := 65536 - floor
			if left%(1<<power) != 1<<(power-1) {
				continue
			}
			met++
			if w, want := noise.Weight(at(1<<20, floor), d), left>>power+1+floor; w != want {
				t.Errorf("%d of %d: %d, not %d", power, floor, w, want)
			}
		}
	}
	if met < 16000 {
		t.Error(met)
	}
}

// 13.3: it is the bell of real numbers, laid on the floor, but for what was rounded off.
func TestWeightReal(t *testing.T) {
	c := rand.New(rand.NewPCG(13, 3))
	for range 20000 {
		n := anyNoise(c)
		d := c.Int64N(9 * n.Sigma)
		x := float64(d) / float64(n.Sigma)
		want := float64(n.Floor) + float64(65536-n.Floor)*math.Exp(-x*x/2)
		w := noise.Weight(n, d)
		if math.Abs(want-float64(w)) > 1.1 {
			t.Error(n, d, w, want)
		}
		if l := noise.Log(n, d); math.Abs(math.Log2(float64(w)/65536)*one-float64(l)) > 1.1 {
			t.Error(n, d, w, l)
		}
	}
}

// 13.3: logarithms that are known: of 0, of one deviation, of others, and of such as are far away.
func TestLogKnown(t *testing.T) {
	for _, c := range []struct{ sigma, floor, d, want int64 }{
		{160, 655, 0, 0},
		{160, 655, 160, -46664},
		{160, 655, 5121, -435464},
		{160, 655, hi, -435464},
		{1, 1, 0, 0},
		{1, 1, 8, -16 * one},
		{1, 1, 33, -16 * one},
		{1 << 20, 16384, 0, 0},
		{1 << 20, 16384, 1<<25 + 1, -2 * one},
		{1 << 20, 16384, hi, -2 * one},
		{160, 8192, 1192, -3 * one},
		{160, 2, 1192, -15 * one},
	} {
		n := at(c.sigma, c.floor)
		if l, k := noise.Log(n, c.d), noise.Log(n, -c.d); l != c.want || k != c.want {
			t.Errorf("%d of %d by %d: %d, and %d, not %d", c.d, c.sigma, c.floor, l, k, c.want)
		}
	}
}

// 13.4: the gate's ends, and what is beyond each, of all right noises.
func TestFarRight(t *testing.T) {
	for _, s := range sigmas {
		for _, g := range gates {
			n := api.Noise{Sigma: s, Floor: 655, Gate: g}
			for _, d := range []int64{0, 1, s, g*s - 1, g * s} {
				if noise.Far(n, d) || noise.Far(n, -d) {
					t.Error(n, d, "is far")
				}
			}
			for _, d := range []int64{g*s + 1, g*s + s, 17 * s, 32*s + 1, 1 << 32, 1 << 62, hi - 1, hi} {
				if !noise.Far(n, d) || !noise.Far(n, -d) {
					t.Error(n, d, "is not far")
				}
			}
			if !noise.Far(n, lo) {
				t.Error(n, "the least number is not far")
			}
		}
	}
}

// 13.4: of any.
func TestFarAny(t *testing.T) {
	c := rand.New(rand.NewPCG(13, 4))
	for range 20000 {
		n := anyNoise(c)
		d := c.Int64N(40*n.Sigma) - 20*n.Sigma
		if far, want := noise.Far(n, d), max(d, -d) > n.Gate*n.Sigma; far != want {
			t.Error(n, d, far)
		}
	}
}

// 13.4: of a wrong noise all are far.
func TestFarWrong(t *testing.T) {
	for _, n := range append(wrongNoises(), api.Noise{}) {
		for _, d := range []int64{0, 1, -1, 160, -160, n.Sigma, -n.Sigma, n.Gate, n.Gate * n.Sigma, hi, lo + 1, lo} {
			if !noise.Far(n, d) {
				t.Error(n, d)
			}
		}
	}
}

// 13.5: what is known: by 0, by 1, up to just MaxSigma, beyond it, far beyond, and below 0.
func TestWidenKnown(t *testing.T) {
	for _, c := range []struct{ sigma, rough, want int64 }{
		{160, 0, 160},
		{160, 1, 161},
		{160, 40, 200},
		{160, 160, 320},
		{160, 1<<20 - 161, 1<<20 - 1},
		{160, 1<<20 - 160, 1 << 20},
		{160, 1<<20 - 159, 1 << 20},
		{160, 1 << 20, 1 << 20},
		{160, 1<<20 + 1, 1 << 20},
		{160, 1 << 32, 1 << 20},
		{160, hi - 160, 1 << 20},
		{160, hi - 159, 1 << 20},
		{160, hi - 1, 1 << 20},
		{160, hi, 1 << 20},
		{160, -1, 160},
		{160, -160, 160},
		{160, -161, 160},
		{160, -1 << 32, 160},
		{160, lo + 1, 160},
		{160, lo, 160},
		{1, 0, 1},
		{1, 1, 2},
		{1, -1, 1},
		{1, 1<<20 - 1, 1 << 20},
		{1, 1 << 20, 1 << 20},
		{1, hi, 1 << 20},
		{1, lo, 1},
		{1<<20 - 1, 0, 1<<20 - 1},
		{1<<20 - 1, 1, 1 << 20},
		{1<<20 - 1, 2, 1 << 20},
		{1 << 20, 0, 1 << 20},
		{1 << 20, 1, 1 << 20},
		{1 << 20, hi, 1 << 20},
		{1 << 20, -1, 1 << 20},
		{1 << 20, lo, 1 << 20},
	} {
		n := api.Noise{Sigma: c.sigma, Floor: 655, Gate: 7}
		if w, want := noise.Widen(n, c.rough), (api.Noise{Sigma: c.want, Floor: 655, Gate: 7}); w != want {
			t.Errorf("%d by %d: %v, not %v", c.sigma, c.rough, w, want)
		}
	}
}

// 13.5: of any: the floor and the gate stay, and what comes out is right.
func TestWidenAny(t *testing.T) {
	c := rand.New(rand.NewPCG(13, 5))
	for range 20000 {
		n := anyNoise(c)
		rough := int64(c.Uint64()) >> c.IntN(64)
		sum := new(big.Int).Add(big.NewInt(n.Sigma), big.NewInt(max(rough, 0)))
		want := n
		want.Sigma = 1 << 20
		if sum.Cmp(big.NewInt(1<<20)) < 0 {
			want.Sigma = sum.Int64()
		}
		if w := noise.Widen(n, rough); w != want || noise.Check(w) != api.OK {
			t.Error(n, rough, w, want)
		}
	}
}

// 13.5: nothing comes of a wrong one, not even one that would be right by then.
func TestWidenWrong(t *testing.T) {
	for _, n := range append(wrongNoises(), api.Noise{}) {
		for _, rough := range []int64{0, 1, 2, 160, 1 << 20, 1 << 32, -n.Sigma, hi, -1, lo} {
			if w := noise.Widen(n, rough); w != (api.Noise{}) {
				t.Error(n, rough, w)
			}
		}
	}
}

// falls fails if what lies farther is believed more than what lies nearer, of two differences without a sign; it tells whether it is believed less.
func falls(t *testing.T, n api.Noise, near, far int64) bool {
	t.Helper()
	if noise.Power(n, near) > noise.Power(n, far) || noise.Weight(n, near) < noise.Weight(n, far) || noise.Log(n, near) < noise.Log(n, far) {
		t.Errorf("%v: %d is believed more than %d", n, far, near)
	}
	if noise.Far(n, near) && !noise.Far(n, far) {
		t.Errorf("%v: %d is far, %d is not", n, near, far)
	}
	return noise.Weight(n, near) > noise.Weight(n, far) && noise.Log(n, near) > noise.Log(n, far)
}

// 13.6: the nearer, the more: step by step, and by greater ones up to the end of 64 bits; by whole deviations it is less each time, as long as the bell is above the floor.
func TestNearer(t *testing.T) {
	for _, s := range []int64{1, 2, 3, 160, 999, 4000} {
		for _, f := range []int64{1, 655, 16384} {
			n := at(s, f)
			for d := range 9 * s {
				falls(t, n, d, d+1)
			}
			for d := range int64(4) {
				if !falls(t, n, d*s, d*s+s) {
					t.Errorf("%v: %d is believed as much as one deviation less", n, d*s+s)
				}
			}
		}
	}
	for _, s := range sigmas {
		l := distances(s)
		for i := range l[1:] {
			falls(t, at(s, 655), l[i], l[i+1])
		}
	}
}

// 13.6: the nearer, the more, of any; to either side as much; the floor is always left; and the wider the bell, the more what lies there.
func TestNearerAny(t *testing.T) {
	c := rand.New(rand.NewPCG(13, 6))
	for range 20000 {
		n := anyNoise(c)
		d := c.Int64N(9 * n.Sigma)
		falls(t, n, d, d+c.Int64N(1+n.Sigma)>>c.IntN(20))
		w := noise.Weight(n, d)
		if w != noise.Weight(n, -d) || w < n.Floor || w > api.Scale {
			t.Error(n, d, w)
		}
		if v := noise.Weight(noise.Widen(n, c.Int64N(1<<20)>>c.IntN(20)), d); v < w {
			t.Error(n, d, w, v)
		}
	}
}
