package regrid_test

import (
	"iter"
	"math"
	"math/big"
	"math/rand/v2"
	"slices"
	"testing"

	"theodolite/api"
	"theodolite/grid"
	"theodolite/moment"
	"theodolite/regrid"
)

const (
	whole  = 1 << 30
	eighth = 1 << 27
	hi     = math.MaxInt64
	lo     = math.MinInt64
)

// laid is a grid of these sides and this Step whose first place lies at 1000, -2000.
func laid(w, h int, step int64, p ...int64) api.Grid {
	return api.Grid{W: w, H: h, X: 1000, Y: -2000, Step: step, P: p}
}

// empty is a grid of these sides in which nothing is believed.
func empty(w, h int, step int64) api.Grid { return laid(w, h, step, make([]int64, w*h)...) }

// spot is a place, told by its column and its row.
type spot struct{ x, y int }

// middle is the place around which a grid of these sides is laid.
func middle(w, h int) spot { return spot{w / 2, h / 2} }

// alone is a grid of which one place is believed, by all that there is.
func alone(w, h int, step int64, at spot) api.Grid { return few(w, h, step, at) }

// few is a grid of which some places are believed alike, what is left over by the first one.
func few(w, h int, step int64, at ...spot) api.Grid {
	g := empty(w, h, step)
	for _, s := range at {
		g.P[s.y*w+s.x] += whole / int64(len(at))
	}
	g.P[at[0].y*w+at[0].x] += whole - grid.Sum(g)
	return g
}

// block is the columns and rows from a place on, w by h of them.
func block(x, y, w, h int) []spot {
	var all []spot
	for j := range h {
		for i := range w {
			all = append(all, spot{x + i, y + j})
		}
	}
	return all
}

// mean is a grid all of whose places are believed alike, but that one a little more than the others, so that it is the peak.
func mean(w, h int, step int64, at spot) api.Grid {
	g, _ := grid.Even(w, h, 1000, -2000, step)
	for i := range g.P {
		g.P[i]--
		g.P[at.y*w+at.x]++
	}
	return g
}

// anyGrid is a right grid that looks like any: one, few or all of its places are believed, next to each other or not, and by numbers that are rounded off.
func anyGrid(c *rand.Rand) api.Grid {
	kinds := []int{1, 2, 3, 4, 7, 8, 9, 12, 15, 16, 17, 18, 31, 32, 33, 63, 64}
	w, h := kinds[c.IntN(len(kinds))], kinds[c.IntN(len(kinds))]
	steps := []int64{16, 17, 28, 31, 32, 34, 36, 64, 256, 1024, 2048, 2049, 2052, 4096}
	g := api.Grid{W: w, H: h, X: c.Int64N(1<<41) - 1<<40, Y: c.Int64N(1<<41) - 1<<40, Step: steps[c.IntN(len(steps))], P: make([]int64, w*h)}
	switch c.IntN(4) {
	case 0:
		g.P[c.IntN(w*h)] = 1
	case 1:
		for range 2 + c.IntN(14) {
			g.P[c.IntN(w*h)] += 1 + c.Int64N(50)
		}
	case 2:
		x, y := c.IntN(w), c.IntN(h)
		for range 2 + c.IntN(14) {
			g.P[min(y+c.IntN(3), h-1)*w+min(x+c.IntN(3), w-1)] += 1 + c.Int64N(50)
		}
	default:
		for i := range g.P {
			g.P[i] = 1 + c.Int64N(9)
		}
	}
	g, _ = grid.Normal(g)
	return g
}

// grids is right grids of all kinds.
func grids(seed uint64, n int) []api.Grid {
	c := rand.New(rand.NewPCG(19, seed))
	var all []api.Grid
	for range n {
		all = append(all, anyGrid(c))
	}
	return all
}

// copied is the same grid in other memory, none of it behind P's length.
func copied(g api.Grid) api.Grid {
	p := make([]int64, len(g.P))
	copy(p, g.P)
	g.P = p
	return g
}

// same tells whether two grids are the same.
func same(a, b api.Grid) bool {
	return a.W == b.W && a.H == b.H && a.X == b.X && a.Y == b.Y && a.Step == b.Step && slices.Equal(a.P, b.P)
}

// isRight fails if a grid that a test goes by is not right.
func isRight(t *testing.T, g api.Grid) {
	t.Helper()
	if code := grid.Check(g); code != api.OK {
		t.Fatal("no right grid:", code, g)
	}
}

// isStep fails if a step is not what was asked for.
func isStep(t *testing.T, what string, g api.Grid, got, want regrid.Step) {
	t.Helper()
	if got != want {
		t.Errorf("%s of %d by %d, Step %d: %v, not %v; %v", what, g.W, g.H, g.Step, got, want, g.P)
	}
}

// The constants of the chapter.
func TestConstants(t *testing.T) {
	if got := [...]int{regrid.Keep, regrid.Split, regrid.Join, regrid.Centre, regrid.Side, regrid.Most}; got != [...]int{0, 1, 2, 3, 16, 4} {
		t.Error(got)
	}
}

// plainCentred is 19.1's Centred, word by word: the first one of the places that none is believed more than.
func plainCentred(g api.Grid) regrid.Step {
	peak := slices.Index(g.P, slices.Max(g.P))
	s := regrid.Step{Kind: regrid.Centre, W: g.W, H: g.H}
	if s.W > 16 {
		s.W = 16
	}
	if s.H > 16 {
		s.H = 16
	}
	s.X = peak%g.W - (s.W-s.W%2)/2
	s.Y = peak/g.W - (s.H-s.H%2)/2
	return s
}

// 19.1: steps told by hand, of one column and row, of 15, 16, 17 and 64, the peak in the first place, the last one, and the middle.
func TestCentred(t *testing.T) {
	for _, c := range []struct {
		w, h       int
		at         spot
		x, y       int
		wide, high int
	}{
		{1, 1, spot{0, 0}, 0, 0, 1, 1},
		{2, 2, spot{0, 0}, -1, -1, 2, 2}, {2, 2, spot{1, 1}, 0, 0, 2, 2},
		{3, 3, spot{0, 0}, -1, -1, 3, 3}, {3, 3, spot{1, 1}, 0, 0, 3, 3}, {3, 3, spot{2, 2}, 1, 1, 3, 3},
		{8, 8, spot{1, 1}, -3, -3, 8, 8}, {8, 8, spot{4, 4}, 0, 0, 8, 8}, {8, 8, spot{7, 6}, 3, 2, 8, 8},
		{15, 15, spot{0, 0}, -7, -7, 15, 15}, {15, 15, spot{7, 7}, 0, 0, 15, 15}, {15, 15, spot{14, 14}, 7, 7, 15, 15},
		{16, 16, spot{0, 0}, -8, -8, 16, 16}, {16, 16, spot{8, 8}, 0, 0, 16, 16}, {16, 16, spot{15, 15}, 7, 7, 16, 16},
		{17, 17, spot{0, 0}, -8, -8, 16, 16}, {17, 17, spot{8, 8}, 0, 0, 16, 16}, {17, 17, spot{16, 16}, 8, 8, 16, 16},
		{64, 64, spot{0, 0}, -8, -8, 16, 16}, {64, 64, spot{32, 32}, 24, 24, 16, 16}, {64, 64, spot{63, 63}, 55, 55, 16, 16},
		{15, 1, spot{14, 0}, 7, 0, 15, 1}, {1, 15, spot{0, 14}, 0, 7, 1, 15},
		{17, 1, spot{16, 0}, 8, 0, 16, 1}, {1, 17, spot{0, 16}, 0, 8, 1, 16},
		{64, 1, spot{63, 0}, 55, 0, 16, 1}, {1, 64, spot{0, 63}, 0, 55, 1, 16},
		{64, 15, spot{40, 3}, 32, -4, 16, 15}, {15, 64, spot{3, 40}, -4, 32, 15, 16},
		{16, 17, spot{15, 16}, 7, 8, 16, 16}, {17, 16, spot{16, 15}, 8, 7, 16, 16},
		{5, 12, spot{4, 2}, 2, -4, 5, 12},
	} {
		want := regrid.Step{Kind: regrid.Centre, X: c.x, Y: c.y, W: c.wide, H: c.high}
		for _, g := range []api.Grid{alone(c.w, c.h, 64, c.at), mean(c.w, c.h, 4096, c.at)} {
			isRight(t, g)
			isStep(t, "Centred", g, regrid.Centred(g), want)
		}
	}
}

// 19.1: of two places that are believed most the first one counts, row by row.
func TestCentredTwo(t *testing.T) {
	for _, c := range []struct {
		w, h int
		at   []spot
		x, y int
	}{
		{8, 8, []spot{{6, 1}, {1, 6}}, 2, -3}, {8, 8, []spot{{1, 6}, {6, 1}}, 2, -3}, {8, 8, []spot{{5, 3}, {2, 3}}, -2, -1},
		{1, 1, []spot{{0, 0}, {0, 0}}, 0, 0}, {2, 1, []spot{{1, 0}, {0, 0}}, -1, 0}, {1, 2, []spot{{0, 1}, {0, 0}}, 0, -1},
		{64, 64, []spot{{63, 63}, {0, 0}}, -8, -8}, {64, 64, []spot{{0, 33}, {63, 32}}, 55, 24},
		{17, 15, []spot{{0, 14}, {16, 13}}, 8, 6},
	} {
		g := few(c.w, c.h, 64, c.at...)
		isRight(t, g)
		isStep(t, "Centred", g, regrid.Centred(g), regrid.Step{Kind: regrid.Centre, X: c.x, Y: c.y, W: min(c.w, 16), H: min(c.h, 16)})
	}
}

// 19.1: steps of each side, the peak in each column and row, and of grids of all kinds; where a grid lies is nothing to it.
func TestCentredAll(t *testing.T) {
	for side := 1; side <= 64; side++ {
		for at := range side {
			for _, g := range []api.Grid{alone(side, 1, 64, spot{at, 0}), alone(1, side, 64, spot{0, at}), alone(side, 65-side, 16, spot{at, at % (65 - side)})} {
				isStep(t, "Centred", g, regrid.Centred(g), plainCentred(g))
				g.X, g.Y = hi, lo
				isStep(t, "Centred", g, regrid.Centred(g), plainCentred(g))
			}
		}
	}
	for _, g := range grids(1, 2000) {
		isRight(t, g)
		isStep(t, "Centred", g, regrid.Centred(g), plainCentred(g))
	}
}

// fewerThanEight tells whether Even is below 8, by 15.4's words: eight times the squares are more than the square of all.
func fewerThanEight(g api.Grid) bool {
	all, squares := new(big.Int), new(big.Int)
	for _, x := range g.P {
		all.Add(all, big.NewInt(x))
		squares.Add(squares, new(big.Int).Mul(big.NewInt(x), big.NewInt(x)))
	}
	return len(g.P) < 8 || squares.Lsh(squares, 3).Cmp(all.Mul(all, all)) > 0
}

// atEdge is how much is believed of the outermost places.
func atEdge(g api.Grid) int64 {
	sum := int64(0)
	for i, x := range g.P {
		if x0, y0 := i%g.W, i/g.W; x0 == 0 || y0 == 0 || x0 == g.W-1 || y0 == g.H-1 {
			sum += x
		}
	}
	return sum
}

// joins, splits and centres tell whether a right grid is to be joined, split, or laid anew, if nothing comes ahead of that, by 19.2's words, and those of 14.6.
func joins(g api.Grid) bool {
	return atEdge(g) > eighth && g.W >= 8 && g.H >= 8 && g.W%2 == 0 && g.H%2 == 0 && g.Step <= 2048
}

func splits(g api.Grid) bool {
	return fewerThanEight(g) && g.W <= 16 && g.H <= 16 && g.Step >= 32 && g.Step%4 == 0
}

func centres(g api.Grid) bool {
	s := plainCentred(g)
	beyond := func(x, side int) bool { return x > side/4 || x < -(side/4) }
	return g.W > 16 || g.H > 16 || beyond(s.X, g.W) || beyond(s.Y, g.H)
}

// plainChoose is 19.2's Choose of a right grid, word by word.
func plainChoose(g api.Grid) regrid.Step {
	switch {
	case joins(g):
		return regrid.Step{Kind: regrid.Join}
	case splits(g):
		return regrid.Step{Kind: regrid.Split}
	case centres(g):
		return plainCentred(g)
	}
	return regrid.Step{}
}

// chosen fails if what is chosen of a right grid is not of that kind; X, Y, W and H are those of Centred, or 0.
func chosen(t *testing.T, g api.Grid, kind int) {
	t.Helper()
	isRight(t, g)
	want := regrid.Step{Kind: kind}
	if kind == regrid.Centre {
		want = plainCentred(g)
	}
	isStep(t, "Choose", g, regrid.Choose(g), want)
}

// with is the same grid, one place of which is believed more, another one less.
func with(g api.Grid, more, less spot, by int64) api.Grid {
	g = copied(g)
	g.P[more.y*g.W+more.x] += by
	g.P[less.y*g.W+less.x] -= by
	return g
}

// 19.2: of grids that are not right, each for another reason, nothing is done, though all else asks for it.
func TestChooseNotRight(t *testing.T) {
	for _, g := range []api.Grid{alone(8, 8, 256, spot{0, 0}), alone(8, 8, 256, spot{1, 1}), alone(8, 8, 16, spot{1, 1}), alone(16, 16, 2048, spot{15, 0})} {
		if s := regrid.Choose(g); s.Kind == regrid.Keep {
			t.Error("is kept when it is right:", g)
		}
		wrong := map[string]func(g *api.Grid){
			"W 0":          func(g *api.Grid) { g.W = 0 },
			"H 0":          func(g *api.Grid) { g.H = 0 },
			"W below 0":    func(g *api.Grid) { g.W = -g.W },
			"no sides":     func(g *api.Grid) { g.W, g.H = -g.W, -g.H },
			"W above 64":   func(g *api.Grid) { g.W, g.H, g.P = 66, 8, append(make([]int64, 66*8-1), whole) },
			"H above 64":   func(g *api.Grid) { g.W, g.H, g.P = 8, 66, append(make([]int64, 66*8-1), whole) },
			"Step 15":      func(g *api.Grid) { g.Step = 15 },
			"Step 0":       func(g *api.Grid) { g.Step = 0 },
			"Step 4097":    func(g *api.Grid) { g.Step = 4097 },
			"Step below 0": func(g *api.Grid) { g.Step = -64 },
			"no places":    func(g *api.Grid) { g.P = nil },
			"one less":     func(g *api.Grid) { g.P = g.P[:len(g.P)-1] },
			"one more":     func(g *api.Grid) { g.P = append(g.P, 0) },
			"below 0":      func(g *api.Grid) { g.P[3]--; g.P[2]++ },
			"above Whole":  func(g *api.Grid) { g.P[slices.Index(g.P, whole)]++ },
			"Sum too much": func(g *api.Grid) { g.P[3]++ },
			"too little":   func(g *api.Grid) { g.P[slices.Index(g.P, whole)] -= int64(len(g.P)) + 1 },
			"nothing":      func(g *api.Grid) { clear(g.P) },
		}
		for name, spoil := range wrong {
			bad := copied(g)
			spoil(&bad)
			if grid.Check(bad) == api.OK {
				t.Fatal("is right:", name)
			}
			if s := regrid.Choose(bad); s != (regrid.Step{}) {
				t.Error(name, s, bad)
			}
		}
	}
}

// edged is a grid of which so much is believed at the edge, in places that are told, and the rest in 16 places around the middle, one of them more than any other place: it is neither split, nor laid anew.
func edged(w, h int, step, much int64, at ...spot) api.Grid {
	g := empty(w, h, step)
	m := middle(w, h)
	for _, s := range block(m.x-2, m.y-2, 4, 4) {
		g.P[s.y*w+s.x] = (4*whole/5 - much) / 15
	}
	g.P[m.y*w+m.x] = 0
	for _, s := range at {
		g.P[s.y*w+s.x] += much / int64(len(at))
	}
	g.P[at[0].y*w+at[0].x] += much - atEdge(g)
	g.P[m.y*w+m.x] += whole - grid.Sum(g)
	return g
}

// 19.2: Join, if more than one eighth is at the edge; of just that, and of one less, it is kept.
func TestChooseEdge(t *testing.T) {
	for _, s := range [][2]int{{8, 8}, {8, 10}, {12, 12}, {16, 8}, {16, 16}} {
		w, h := s[0], s[1]
		for _, at := range [][]spot{
			{{0, 0}}, {{w - 1, 0}}, {{0, h - 1}}, {{w - 1, h - 1}}, {{3, 0}}, {{0, 3}}, {{3, h - 1}}, {{w - 1, 3}},
			{{0, 0}, {w - 1, h - 1}, {w - 1, 3}}, block(0, 0, w, 1), block(0, 0, 1, h), block(w-1, 0, 1, h), block(0, h-1, w, 1),
		} {
			for much, kind := range map[int64]int{0: regrid.Keep, eighth - 1: regrid.Keep, eighth: regrid.Keep, eighth + 1: regrid.Join, 2 * eighth: regrid.Join} {
				g := edged(w, h, 64, much, at...)
				if atEdge(g) != much {
					t.Fatal(g)
				}
				chosen(t, g, kind)
			}
		}
	}
}

// 19.2: what is not joined, however much is at the edge: fewer than 8 columns or rows, an odd one, and too great a Step.
func TestChooseNotJoined(t *testing.T) {
	for _, c := range []struct {
		w, h int
		step int64
		kind int
	}{
		{8, 8, 64, regrid.Join}, {8, 8, 16, regrid.Join}, {8, 8, 17, regrid.Join}, {8, 64, 64, regrid.Join}, {64, 8, 64, regrid.Join}, {64, 64, 2048, regrid.Join},
		{7, 8, 64, regrid.Keep}, {8, 7, 64, regrid.Keep}, {7, 7, 64, regrid.Keep}, {6, 8, 64, regrid.Keep}, {8, 6, 64, regrid.Keep}, {6, 6, 64, regrid.Keep}, {6, 16, 64, regrid.Keep}, {16, 6, 64, regrid.Keep},
		{9, 8, 64, regrid.Keep}, {8, 9, 64, regrid.Keep}, {9, 9, 64, regrid.Keep}, {15, 16, 64, regrid.Keep}, {16, 15, 64, regrid.Keep},
		{8, 8, 2047, regrid.Join}, {8, 8, 2048, regrid.Join}, {8, 8, 2049, regrid.Keep}, {8, 8, 2050, regrid.Keep}, {16, 16, 4096, regrid.Keep},
		{6, 64, 64, regrid.Centre}, {64, 6, 64, regrid.Centre}, {63, 64, 64, regrid.Centre}, {64, 63, 64, regrid.Centre}, {64, 64, 2049, regrid.Centre},
	} {
		for _, much := range []int64{eighth + 1, 3 * eighth} {
			chosen(t, edged(c.w, c.h, c.step, much, spot{0, 0}, spot{c.w - 1, 1}, spot{1, c.h - 1}), c.kind)
		}
	}
}

// 19.2: Split, if Even is below 8: of places believed alike, seven are split, eight are not, but one part more of one of them, and less of another one; of fewer than eight places each.
func TestChooseEven(t *testing.T) {
	m := middle(16, 16)
	seven, eight, nine := block(m.x, m.y, 7, 1), block(m.x, m.y, 4, 2), block(m.x, m.y, 3, 3)
	for step, kind := range map[int64]int{32: regrid.Split, 64: regrid.Split, 16: regrid.Keep} {
		chosen(t, few(16, 16, step, m), kind)
		chosen(t, few(16, 16, step, m, spot{m.x, m.y + 1}), kind)
		chosen(t, few(16, 16, step, seven...), kind)
		chosen(t, few(16, 16, step, eight...), regrid.Keep)
		chosen(t, with(few(16, 16, step, eight...), eight[0], eight[7], 1), kind)
		chosen(t, with(few(16, 16, step, eight...), spot{m.x, m.y + 4}, eight[7], 1), regrid.Keep)
		chosen(t, few(16, 16, step, nine...), regrid.Keep)
		// Of nine places one may be believed so much more that they count as eight, or as fewer.
		chosen(t, with(few(16, 16, step, nine...), nine[0], nine[8], whole/15), regrid.Keep)
		chosen(t, with(few(16, 16, step, nine...), nine[0], nine[8], whole/10), kind)
	}
	for _, s := range [][2]int{{1, 1}, {2, 1}, {1, 2}, {7, 1}, {1, 7}, {2, 3}, {3, 2}} {
		chosen(t, mean(s[0], s[1], 64, middle(s[0], s[1])), regrid.Split)
		chosen(t, mean(s[0], s[1], 31, middle(s[0], s[1])), regrid.Keep)
	}
	line, _ := grid.Even(8, 1, 0, 0, 64)
	chosen(t, line, regrid.Centre)
	chosen(t, mean(9, 1, 64, spot{4, 0}), regrid.Keep)
	chosen(t, mean(3, 3, 64, spot{1, 1}), regrid.Keep)
}

// 19.2: what is not split, however few places are believed: more than 16 columns or rows, and a Step that is too small, or no four times some number.
func TestChooseNotSplit(t *testing.T) {
	for _, c := range []struct {
		w, h int
		step int64
		kind int
	}{
		{16, 16, 32, regrid.Split}, {15, 16, 32, regrid.Split}, {16, 15, 36, regrid.Split}, {1, 16, 64, regrid.Split}, {16, 1, 4096, regrid.Split}, {5, 7, 2052, regrid.Split},
		{17, 16, 64, regrid.Centre}, {16, 17, 64, regrid.Centre}, {17, 17, 64, regrid.Centre}, {1, 17, 64, regrid.Centre}, {17, 1, 64, regrid.Centre},
		{32, 32, 64, regrid.Centre}, {33, 1, 64, regrid.Centre}, {64, 64, 64, regrid.Centre}, {17, 3, 31, regrid.Centre},
		{16, 16, 31, regrid.Keep}, {16, 16, 28, regrid.Keep}, {16, 16, 16, regrid.Keep}, {15, 13, 20, regrid.Keep},
		{16, 16, 33, regrid.Keep}, {16, 16, 34, regrid.Keep}, {16, 16, 35, regrid.Keep}, {9, 9, 4095, regrid.Keep}, {9, 9, 2050, regrid.Keep},
	} {
		chosen(t, alone(c.w, c.h, c.step, middle(c.w, c.h)), c.kind)
	}
}

// 19.2: Centred, if more than a quarter of the columns, or of the rows, away from 0, on either side; a quarter is told without a rest.
func TestChooseAside(t *testing.T) {
	for _, c := range []struct{ side, first, last int }{
		{1, 0, 0}, {2, 1, 1}, {3, 1, 1}, {4, 1, 3}, {5, 1, 3}, {6, 2, 4}, {7, 2, 4}, {8, 2, 6}, {9, 2, 6}, {11, 3, 7}, {12, 3, 9}, {13, 3, 9}, {15, 4, 10}, {16, 4, 12},
	} {
		for at := range c.side {
			kind := regrid.Centre
			if at >= c.first && at <= c.last {
				kind = regrid.Keep
			}
			// Lines are not joined, and by that Step nothing is split.
			chosen(t, alone(c.side, 1, 16, spot{at, 0}), kind)
			chosen(t, alone(1, c.side, 16, spot{0, at}), kind)
			chosen(t, alone(c.side, 7, 16, spot{at, 3}), kind)
			chosen(t, alone(7, c.side, 16, spot{3, at}), kind)
			chosen(t, alone(c.side, 7, 16, spot{at, 1}), regrid.Centre)
			chosen(t, alone(7, c.side, 16, spot{5, at}), regrid.Centre)
		}
	}
	for x, kind := range map[int]int{3: regrid.Centre, 4: regrid.Keep, 8: regrid.Keep, 12: regrid.Keep, 13: regrid.Centre} {
		// 8 places and a ninth one, so that nothing asks for finer ones.
		around := append([]spot{{x, 6}}, block(6, 7, 4, 2)...)
		turned := append([]spot{{6, x}}, block(7, 6, 2, 4)...)
		for _, step := range []int64{64, 4096} {
			chosen(t, with(few(16, 16, step, around...), around[0], around[8], 9), kind)
			chosen(t, with(few(16, 16, step, turned...), turned[0], turned[8], 9), kind)
		}
	}
}

// 19.2: Join comes ahead of Split, and of Centre; Split ahead of Centre.
func TestChooseOrder(t *testing.T) {
	for _, c := range []struct {
		w, h int
		step int64
		at   spot
		kind int
	}{
		{8, 8, 256, spot{0, 0}, regrid.Join}, {16, 16, 256, spot{15, 8}, regrid.Join}, {16, 16, 16, spot{8, 15}, regrid.Join}, {64, 64, 2048, spot{0, 63}, regrid.Join},
		{8, 8, 2052, spot{0, 0}, regrid.Split}, {7, 8, 256, spot{0, 0}, regrid.Split}, {15, 16, 4096, spot{14, 15}, regrid.Split}, {8, 8, 256, spot{1, 1}, regrid.Split}, {16, 16, 32, spot{1, 14}, regrid.Split},
		{8, 8, 2049, spot{0, 0}, regrid.Centre}, {7, 8, 28, spot{0, 0}, regrid.Centre}, {8, 8, 16, spot{1, 1}, regrid.Centre}, {64, 64, 2048, spot{1, 62}, regrid.Centre}, {64, 64, 2052, spot{0, 63}, regrid.Centre},
	} {
		chosen(t, alone(c.w, c.h, c.step, c.at), c.kind)
	}
}

// 19.2: what is chosen of grids of all kinds, wherever they lie.
func TestChooseAll(t *testing.T) {
	met := map[int]int{}
	for _, g := range grids(2, 6000) {
		want := plainChoose(g)
		met[want.Kind]++
		isStep(t, "Choose", g, regrid.Choose(g), want)
		g.X, g.Y = lo, hi
		isStep(t, "Choose", g, regrid.Choose(g), want)
	}
	for _, kind := range []int{regrid.Keep, regrid.Split, regrid.Join, regrid.Centre} {
		if met[kind] < 100 {
			t.Error("hardly met", kind, met)
		}
	}
}

// done is what Do tells, as one.
type done struct {
	g         api.Grid
	was, kept int64
	code      api.Code
}

// do is Do as one.
func do(g api.Grid, s regrid.Step) done {
	next, was, kept, code := regrid.Do(g, s)
	return done{next, was, kept, code}
}

// plainDo is 19.3's Do, word by word.
func plainDo(g api.Grid, s regrid.Step) done {
	next, code := g, api.ErrKind
	switch s.Kind {
	case 0:
		return done{g, grid.Sum(g), grid.Sum(g), api.OK}
	case 1:
		next, code = grid.Split(g)
	case 2:
		next, code = grid.Join(g)
	case 3:
		next, code = grid.Cut(g, s.X, s.Y, s.W, s.H)
	}
	if code != api.OK {
		return done{g: g, code: code}
	}
	normal, code := grid.Normal(next)
	if code != api.OK {
		return done{g: g, code: code}
	}
	return done{normal, grid.Sum(g), grid.Sum(next), api.OK}
}

// isDone fails if Do does not tell what was asked for, or changes what was handed in, or makes a grid that is not right.
func isDone(t *testing.T, g api.Grid, s regrid.Step, want done) {
	t.Helper()
	was := copied(g)
	got := do(g, s)
	if !same(got.g, want.g) || got.was != want.was || got.kept != want.kept || got.code != want.code {
		t.Errorf("Do of %v, %v: %v; not %v", was, s, got, want)
	}
	if !same(g, was) {
		t.Error("Do changed", was, s, g)
	}
	if code := grid.Check(got.g); code != api.OK {
		t.Error("Do made no right grid:", code, was, s, got)
	}
}

// 19.3: Keep, whatever else the step says: the grid itself, and twice its Sum.
func TestDoKeep(t *testing.T) {
	for _, s := range []regrid.Step{{}, {X: 99, Y: -99, W: 0, H: 65}, {X: 1, Y: 1, W: 2, H: 2}, {X: math.MinInt, Y: math.MaxInt, W: math.MinInt, H: math.MaxInt}} {
		isDone(t, laid(2, 1, 64, whole-7, 6), s, done{laid(2, 1, 64, whole-7, 6), whole - 1, whole - 1, api.OK})
		isDone(t, laid(1, 1, 16, whole), s, done{laid(1, 1, 16, whole), whole, whole, api.OK})
		for _, g := range grids(3, 200) {
			isDone(t, g, s, done{g, grid.Sum(g), grid.Sum(g), api.OK})
		}
	}
}

// 19.3: kinds that are none, whatever else the step says: the grid itself, and no sums.
func TestDoKind(t *testing.T) {
	for _, kind := range []int{-1, -2, -3, 4, 5, 255, 256, 257, 1 << 16, 1<<32 + 1, 1 << 32, math.MaxInt, math.MinInt, math.MinInt + 3} {
		for _, s := range []regrid.Step{{}, {W: 1, H: 1}, {X: 99, Y: -99, W: 0, H: 65}} {
			s.Kind = kind
			for _, g := range []api.Grid{laid(2, 1, 64, whole-7, 6), alone(64, 64, 17, spot{3, 3}), alone(1, 1, 4096, spot{0, 0})} {
				isDone(t, g, s, done{g: g, code: api.ErrKind})
			}
		}
	}
}

// 19.3: Split, made whole, told by hand; X, Y, W and H are nothing to it.
func TestDoSplit(t *testing.T) {
	want := laid(4, 2, 32, whole/16, whole/16, 3*whole/16, 3*whole/16, whole/16, whole/16, 3*whole/16, 3*whole/16)
	want.X, want.Y = 984, -2016
	isDone(t, laid(2, 1, 64, whole/4, 3*whole/4), regrid.Step{Kind: regrid.Split, X: 99, W: -1}, done{want, whole, whole, api.OK})
	// A quarter of 3 is nothing, so that 2^30 less 4 are left, of which each of four is a quarter.
	rest := laid(4, 2, 128, whole/4, whole/4, 0, 0, whole/4, whole/4, 0, 0)
	rest.X, rest.Y = 936, -2064
	isDone(t, laid(2, 1, 256, whole-4, 3), regrid.Step{Kind: regrid.Split}, done{rest, whole - 1, whole - 4, api.OK})
	one := laid(2, 2, 2048, whole/4, whole/4, whole/4, whole/4)
	one.X, one.Y = -24, -3024
	isDone(t, laid(1, 1, 4096, whole-1), regrid.Step{Kind: regrid.Split}, done{one, whole - 1, whole - 4, api.OK})
}

// 19.3: Join, made whole, told by hand; X, Y, W and H are nothing to it.
func TestDoJoin(t *testing.T) {
	want := laid(2, 1, 128, whole/4, 3*whole/4)
	want.X, want.Y = 1032, -1968
	isDone(t, laid(4, 2, 64, whole/16, whole/16, whole/4, 0, whole/8, 0, 0, whole/2), regrid.Step{Kind: regrid.Join, Y: -99, H: 65}, done{want, whole, whole, api.OK})
	one := laid(1, 1, 4096, whole)
	one.X, one.Y = 2024, -976
	isDone(t, laid(2, 2, 2048, whole/2, 0, 1, whole/2-4), regrid.Step{Kind: regrid.Join}, done{one, whole - 3, whole - 3, api.OK})
}

// 19.3: Split and Join that can't be done: the grid itself, and no sums.
func TestDoLimit(t *testing.T) {
	no := func(kind int, g api.Grid) {
		t.Helper()
		isRight(t, g)
		isDone(t, g, regrid.Step{Kind: kind, W: 1, H: 1}, done{g: g, code: api.ErrLimit})
	}
	for _, s := range [][2]int{{33, 1}, {1, 33}, {33, 33}, {64, 64}, {64, 2}} {
		no(regrid.Split, mean(s[0], s[1], 64, spot{0, 0}))
	}
	for _, step := range []int64{16, 20, 28, 31, 33, 34, 35, 4095} {
		no(regrid.Split, mean(8, 8, step, spot{0, 0}))
	}
	for _, s := range [][2]int{{1, 1}, {2, 1}, {1, 2}, {3, 4}, {4, 3}, {63, 64}, {64, 63}} {
		no(regrid.Join, mean(s[0], s[1], 64, spot{0, 0}))
	}
	for _, step := range []int64{2049, 2050, 2052, 4096} {
		no(regrid.Join, mean(8, 8, step, spot{0, 0}))
	}
}

// 19.3: Centre, made whole, told by hand: places that there were, and some where there is none.
func TestDoCentre(t *testing.T) {
	g := laid(3, 3, 64,
		0, whole/8, 0,
		whole/8, whole/4, whole/8,
		0, whole/8, whole/4)
	for _, c := range []struct {
		x, y, w, h int
		want       []int64
		kept       int64
	}{
		{0, 0, 3, 3, g.P, whole},
		{1, 1, 2, 2, []int64{whole / 3, whole / 6, whole / 6, whole / 3}, 6 * whole / 8},
		{1, 1, 1, 1, []int64{whole}, whole / 4},
		{-1, -1, 3, 3, []int64{0, 0, 0, 0, 0, whole / 4, 0, whole / 4, whole / 2}, whole / 2},
		{2, 2, 2, 2, []int64{whole, 0, 0, 0}, whole / 4},
		{1, -1, 1, 3, []int64{0, whole / 3, 2 * whole / 3}, 3 * whole / 8},
		{0, 2, 3, 1, []int64{0, whole / 3, 2 * whole / 3}, 3 * whole / 8},
		{2, 0, 1, 2, []int64{0, whole}, whole / 8},
	} {
		want := laid(c.w, c.h, 64, c.want...)
		want.X, want.Y = 1000+64*int64(c.x), -2000+64*int64(c.y)
		isDone(t, g, regrid.Step{Kind: regrid.Centre, X: c.x, Y: c.y, W: c.w, H: c.h}, done{want, whole, c.kept, api.OK})
	}
	little := laid(2, 1, 64, whole-1, 1)
	want := laid(1, 1, 64, whole)
	want.X = 1064
	isDone(t, little, regrid.Step{Kind: regrid.Centre, X: 1, W: 1, H: 1}, done{want, whole, 1, api.OK})
}

// 19.3: Centre of columns and rows that Cut takes, and that it does not, at each end; and where nothing is believed.
func TestDoCentreEnds(t *testing.T) {
	ends := few(64, 64, 4096, spot{0, 0}, spot{63, 63})
	for _, c := range []struct {
		x, y, w, h int
		code       api.Code
	}{
		{0, 0, 64, 64, api.OK}, {0, 0, 1, 1, api.OK}, {63, 63, 1, 1, api.OK}, {63, 63, 64, 64, api.OK}, {-63, -63, 64, 64, api.OK},
		{0, 0, 0, 1, api.ErrRange}, {0, 0, 1, 0, api.ErrRange}, {0, 0, -1, 1, api.ErrRange}, {0, 0, 1, -1, api.ErrRange},
		{0, 0, 65, 64, api.ErrRange}, {0, 0, 64, 65, api.ErrRange}, {0, 0, math.MinInt, 1, api.ErrRange}, {0, 0, 1, math.MaxInt, api.ErrRange},
		{64, 0, 64, 64, api.ErrNone}, {0, 64, 64, 64, api.ErrNone}, {-64, 0, 64, 64, api.ErrNone}, {0, -64, 64, 64, api.ErrNone},
		{65, 0, 64, 64, api.ErrRange}, {0, 65, 64, 64, api.ErrRange}, {-65, 0, 64, 64, api.ErrRange}, {0, -65, 64, 64, api.ErrRange},
		{math.MaxInt, 0, 1, 1, api.ErrRange}, {0, math.MinInt, 1, 1, api.ErrRange}, {65, 65, 65, 65, api.ErrRange},
		{1, 1, 62, 62, api.ErrNone}, {1, 0, 63, 63, api.ErrNone}, {5, 6, 1, 1, api.ErrNone}, {-62, -63, 62, 64, api.ErrNone},
	} {
		s := regrid.Step{Kind: regrid.Centre, X: c.x, Y: c.y, W: c.w, H: c.h}
		want := plainDo(ends, s)
		if want.code != c.code {
			t.Fatal(c, want.code)
		}
		isDone(t, ends, s, want)
	}
	one := laid(1, 1, 64, whole-1)
	for _, x := range []int{-1, 1, -64, 64} {
		isDone(t, one, regrid.Step{Kind: regrid.Centre, X: x, W: 1, H: 1}, done{g: one, code: api.ErrNone})
		isDone(t, one, regrid.Step{Kind: regrid.Centre, Y: x, W: 1, H: 1}, done{g: one, code: api.ErrNone})
	}
}

// 19.3: steps of all kinds, of grids of all kinds: what comes of each is a right grid.
func TestDoAll(t *testing.T) {
	c := rand.New(rand.NewPCG(19, 4))
	met := map[api.Code]int{}
	for _, g := range grids(5, 3000) {
		for _, s := range []regrid.Step{
			regrid.Choose(g), regrid.Centred(g), {Kind: regrid.Split}, {Kind: regrid.Join},
			{Kind: c.IntN(7) - 2, X: c.IntN(20) - 10, Y: c.IntN(20) - 10, W: c.IntN(20) - 2, H: c.IntN(20) - 2},
		} {
			want := plainDo(g, s)
			met[want.code]++
			isDone(t, g, s, want)
		}
		// Whatever is chosen, or laid around the peak, can be done.
		for _, s := range []regrid.Step{regrid.Choose(g), regrid.Centred(g)} {
			if got := do(g, s); got.code != api.OK || got.kept < 1 {
				t.Error(g, s, got)
			}
		}
	}
	for _, code := range []api.Code{api.OK, api.ErrKind, api.ErrLimit, api.ErrRange, api.ErrNone} {
		if met[code] < 20 {
			t.Error("hardly met", code, met)
		}
	}
}

// pair is a grid, and what is chosen of it.
type pair struct {
	g api.Grid
	s regrid.Step
}

// plainAll is 19.4's All of a right grid, word by word.
func plainAll(g api.Grid) []pair {
	var all []pair
	for len(all) < 4 {
		s := plainChoose(g)
		next := plainDo(g, s)
		if s.Kind == regrid.Keep || next.code != api.OK {
			break
		}
		all = append(all, pair{g, s})
		g = next.g
	}
	return all
}

// gone is what is gone through, up to so many.
func gone(all iter.Seq2[api.Grid, regrid.Step], most int) []pair {
	var l []pair
	for g, s := range all {
		l = append(l, pair{copied(g), s})
		if len(l) == most {
			break
		}
	}
	return l
}

// isGone fails if what was gone through is not what was asked for.
func isGone(t *testing.T, what string, got, want []pair) {
	t.Helper()
	if !slices.EqualFunc(got, want, func(a, b pair) bool { return same(a.g, b.g) && a.s == b.s }) {
		t.Errorf("%s: %v, not %v", what, got, want)
	}
}

// endless is a grid that is joined, joined, split and joined, and so on without an end.
func endless() api.Grid { return alone(16, 16, 64, spot{0, 0}) }

// kinds is the kinds of steps.
func kinds(l []pair) []int {
	var all []int
	for _, p := range l {
		all = append(all, p.s.Kind)
	}
	return all
}

// 19.4: up to Keep, which is not told, and up to Most, told by hand.
func TestAll(t *testing.T) {
	for _, c := range []struct {
		g    api.Grid
		want []int
	}{
		{edged(8, 8, 64, eighth, spot{0, 0}), nil},
		{alone(1, 1, 16, spot{0, 0}), nil},
		{alone(7, 7, 16, spot{0, 0}), []int{regrid.Centre}},
		{alone(64, 64, 16, spot{30, 20}), []int{regrid.Centre}},
		{alone(1, 1, 64, spot{0, 0}), []int{regrid.Split, regrid.Split, regrid.Centre}},
		{edged(64, 64, 64, 3*eighth, spot{0, 9}, spot{63, 33}), []int{regrid.Join, regrid.Join, regrid.Join, regrid.Join}},
		{alone(8, 8, 256, spot{1, 1}), []int{regrid.Split, regrid.Split, regrid.Centre}},
		{endless(), []int{regrid.Join, regrid.Join, regrid.Split, regrid.Join}},
	} {
		isRight(t, c.g)
		got := gone(regrid.All(c.g), -1)
		if !slices.Equal(kinds(got), c.want) {
			t.Error(c.g, kinds(got), "not", c.want)
		}
		isGone(t, "All", got, plainAll(c.g))
	}
}

// 19.4: steps of grids of all kinds: the first grid is that which was handed in, each other one what Do made of that ahead of it.
func TestAllAny(t *testing.T) {
	met := map[int]int{}
	for _, g := range grids(6, 3000) {
		was := copied(g)
		got := gone(regrid.All(g), -1)
		met[len(got)]++
		isGone(t, "All", got, plainAll(g))
		for i, p := range got {
			if i == 0 && !same(p.g, was) || p.s != regrid.Choose(p.g) || grid.Check(p.g) != api.OK {
				t.Error(i, p)
			}
			if next := do(p.g, p.s); i+1 < len(got) && !same(next.g, got[i+1].g) {
				t.Error(i, p)
			}
		}
		if !same(g, was) {
			t.Error("All changed", was, g)
		}
	}
	for n := range regrid.Most + 1 {
		if met[n] < 5 {
			t.Error("hardly met", n, met)
		}
	}
}

// 19.4 and R4: left at once, in the middle, and behind the last one, it is gone through again as it was.
func TestAllLeft(t *testing.T) {
	for _, g := range []api.Grid{endless(), alone(8, 8, 256, spot{1, 1}), alone(7, 7, 16, spot{0, 0}), alone(1, 1, 16, spot{0, 0})} {
		all, want := regrid.All(g), plainAll(g)
		for n := 1; n <= len(want)+1; n++ {
			isGone(t, "left", gone(all, n), want[:min(n, len(want))])
			isGone(t, "again", gone(all, -1), want)
		}
		for n := range len(want) {
			asked := 0
			all(func(api.Grid, regrid.Step) bool {
				asked++
				return asked <= n
			})
			if asked != n+1 {
				t.Error("asked again when it was left:", n, asked)
			}
		}
	}
}

// 19.4 and R4: left by a label from within, at each step, and gone through by two at the same time.
func TestAllLabel(t *testing.T) {
	g := endless()
	all, want := regrid.All(g), plainAll(g)
	for i := range want {
		var got []pair
	outer:
		for a, s := range all {
			inner := 0
			for b, r := range all {
				isGone(t, "within", []pair{{b, r}}, want[inner:inner+1])
				if inner++; inner > i {
					got = append(got, pair{a, s})
					if len(got) == i+1 {
						break outer
					}
					continue outer
				}
			}
		}
		isGone(t, "by a label", got, want[:i+1])
	}
}

// 19.4 and R3: neither what becomes of the grid that was handed in, nor what is written to those that are told, changes what is told.
func TestAllNotShared(t *testing.T) {
	for _, first := range []api.Grid{endless(), alone(8, 8, 256, spot{1, 1}), alone(64, 64, 16, spot{30, 20})} {
		want := plainAll(first)
		behind := slices.Concat(first.P, slices.Repeat([]int64{-7}, 70))
		g := first
		g.P = behind[:len(first.P)]
		all := regrid.All(g)
		isGone(t, "All", gone(all, -1), want)
		for i := range behind {
			behind[i] = int64(-i)
		}
		for range 2 {
			var got []pair
			for at, s := range all {
				got = append(got, pair{copied(at), s})
				spoil(at)
			}
			isGone(t, "written to", got, want)
		}
		for i := range behind {
			if behind[i] != int64(-i) {
				t.Fatal("changed behind the call", i)
			}
		}
	}
}

// spoil writes to all memory of a grid's places.
func spoil(g api.Grid) {
	p := g.P[:cap(g.P)]
	for i := range p {
		p[i] = -9
	}
}

// steps is steps of each kind, of some that are none, and of some that can't be done.
var steps = []regrid.Step{
	{}, {Kind: regrid.Split}, {Kind: regrid.Join}, {Kind: regrid.Centre, W: 8, H: 8}, {Kind: regrid.Centre, X: 1, Y: -1, W: 3, H: 9},
	{Kind: -1}, {Kind: 4}, {Kind: regrid.Centre}, {Kind: regrid.Centre, X: 64, W: 1, H: 1}, {Kind: regrid.Centre, X: 65, W: 1, H: 1},
}

// R3: no call changes the grid that is handed in, reads what lies behind its places, or tells memory of it.
func TestNothingShared(t *testing.T) {
	for _, step := range []int64{16, 64, 4096} {
		for _, s := range steps {
			first := mean(8, 8, step, spot{2, 3})
			behind := slices.Concat(first.P, slices.Repeat([]int64{whole}, 64))
			was := slices.Clone(behind)
			g := first
			g.P = behind[:64]
			want := plainDo(first, s)
			got := do(g, s)
			isStep(t, "Choose", g, regrid.Choose(g), plainChoose(first))
			isStep(t, "Centred", g, regrid.Centred(g), plainCentred(first))
			if !same(got.g, want.g) || !slices.Equal(behind, was) {
				t.Error(s, got, behind)
			}
			again := do(g, s)
			spoil(got.g)
			if !slices.Equal(behind, was) || !same(again.g, want.g) {
				t.Error("told memory that is asked for:", s)
			}
			clear(behind)
			if !same(again.g, want.g) {
				t.Error("kept memory that was handed in:", s)
			}
		}
	}
}

// P0: of grids that are not right nothing is promised, but that all calls end; nothing is done to them.
func TestWrongGridsEnd(t *testing.T) {
	wrong := []api.Grid{{}, {P: []int64{1, 2}}, laid(2, 2, 64), laid(2, 2, 64, 1, 2, 3), laid(2, 2, 64, 1, 2, 3, 4, 5), laid(64, 64, 64, 1), empty(8, 8, 64), empty(1, 1, 64)}
	for _, s := range []int{0, -1, -2, 65, 66, 1 << 32, 1<<62 + 2, math.MaxInt, math.MinInt, math.MinInt + 2} {
		wrong = append(wrong, laid(s, 2, 64, 1, 2), laid(2, s, 64, 1, 2), laid(s, s, 64), laid(s, s, 64, 1, 2, 3, 4), laid(s, 1, 64, 1, 2, 3))
	}
	for _, p := range [][]int64{{lo, lo, hi, hi}, {-1, 1, 0, 0}, {-1, -1, -1, -1}, {hi, hi, hi, hi}, {1 << 62, 1 << 62, 1 << 62, 1 << 62}, {1, 2, 3, 4}} {
		for _, step := range []int64{0, -1, 15, 64, 4097, hi, lo} {
			wrong = append(wrong, api.Grid{W: 2, H: 2, X: hi, Y: lo, Step: step, P: p})
		}
	}
	for _, g := range wrong {
		was := copied(g)
		regrid.Centred(g)
		if s := regrid.Choose(g); s != (regrid.Step{}) {
			t.Error("Choose of", g, s)
		}
		for _, s := range append(steps, regrid.Centred(g)) {
			do(g, s)
		}
		if l := gone(regrid.All(g), -1); len(l) != 0 {
			t.Error("All of", g, l)
		}
		if !same(g, was) {
			t.Error("changed", was, g)
		}
	}
}

// The chapter's example: all in one place of eight by eight; where it is thought to be moves by no more than a part.
func TestExample(t *testing.T) {
	g := alone(8, 8, 256, spot{1, 1})
	isStep(t, "Choose", g, regrid.Choose(g), regrid.Step{Kind: regrid.Split})
	isStep(t, "Centred", g, regrid.Centred(g), regrid.Step{Kind: regrid.Centre, X: -3, Y: -3, W: 8, H: 8})
	want, _ := moment.Mean(g)
	for at, s := range regrid.All(g) {
		next := do(at, s)
		if got, ok := moment.Mean(next.g); !ok || max(got.X-want.X, want.X-got.X, got.Y-want.Y, want.Y-got.Y) > 1 {
			t.Error(s, got, want)
		}
	}
}
