package regrid

import (
	"slices"
	"testing"

	"theodolite/api"
)

// always is the step that is chosen of each grid.
func always(s Step) func(api.Grid) Step { return func(api.Grid) Step { return s } }

// sidesOf is how many columns the grids have that are gone through, up to so many.
func sidesOf(g api.Grid, s Step, most int) []int {
	var all []int
	for at, told := range doable(g, always(s)) {
		if told != s {
			return nil
		}
		if all = append(all, at.W); len(all) == most {
			break
		}
	}
	return all
}

// 19.4: up to the first step that can't be done, which is not told. No step that is chosen is such a one, so other ones stand for it here.
func TestDoable(t *testing.T) {
	g := api.Grid{W: 8, H: 8, Step: 256, P: make([]int64, 64)}
	g.P[9] = api.Whole
	for _, c := range []struct {
		s    Step
		want []int
	}{
		// The Step is too small behind three splits, a row alone can't be joined, and what is cut off is nothing.
		{Step{Kind: Split}, []int{8, 16, 32}},
		{Step{Kind: Join}, []int{8, 4, 2}},
		{Step{Kind: Centre, X: 1, Y: 1, W: 7, H: 7}, []int{8}},
		{Step{Kind: Centre, X: 2, Y: 0, W: 8, H: 8}, nil},
		{Step{Kind: Centre, W: 65, H: 1}, nil},
		{Step{Kind: 4}, nil},
		{Step{Kind: -1}, nil},
	} {
		if got := sidesOf(g, c.s, -1); !slices.Equal(got, c.want) {
			t.Error(c.s, got, "not", c.want)
		}
	}
	if got := sidesOf(g, Step{Kind: Keep}, 9); !slices.Equal(got, slices.Repeat([]int{8}, 9)) {
		t.Error(got)
	}
	if got := sidesOf(g, Step{Kind: Split}, 2); !slices.Equal(got, []int{8, 16}) {
		t.Error(got)
	}
}
