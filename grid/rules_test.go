package grid_test

import (
	"math"
	"slices"
	"testing"

	"raddle/api"
	"raddle/grid"
)

// call is a function of the package with its other arguments set.
type call struct {
	name string
	do   func(g api.Grid) (api.Grid, api.Errno)
}

// makers returns the functions that make a grid of one, where they succeed.
func makers() []call {
	return []call{
		{"Not", grid.Not},
		{"And", func(g api.Grid) (api.Grid, api.Errno) { return grid.And(g, g) }},
		{"Or", func(g api.Grid) (api.Grid, api.Errno) { return grid.Or(g, g) }},
		{"Turn", grid.Turn},
		{"Mirror 0", func(g api.Grid) (api.Grid, api.Errno) { return grid.Mirror(g, 0) }},
		{"Mirror 1", func(g api.Grid) (api.Grid, api.Errno) { return grid.Mirror(g, 1) }},
		{"Shift", func(g api.Grid) (api.Grid, api.Errno) { return grid.Shift(g, 1, 1) }},
		{"Shift by 0", func(g api.Grid) (api.Grid, api.Errno) { return grid.Shift(g, 0, 0) }},
		{"Tile", func(g api.Grid) (api.Grid, api.Errno) { return grid.Tile(g, 1, 1) }},
		{"Part", func(g api.Grid) (api.Grid, api.Errno) { return grid.Part(g, 0, 0, g.W, g.H) }},
	}
}

// misuses returns calls that are wrong for any grid.
func misuses() []call {
	return []call{
		{"Mirror", func(g api.Grid) (api.Grid, api.Errno) { return grid.Mirror(g, 2) }},
		{"Tile 0", func(g api.Grid) (api.Grid, api.Errno) { return grid.Tile(g, 0, 1) }},
		{"Tile 0 and many", func(g api.Grid) (api.Grid, api.Errno) { return grid.Tile(g, 65, 0) }},
		{"Part", func(g api.Grid) (api.Grid, api.Errno) { return grid.Part(g, -1, 0, 1, 1) }},
	}
}

// invalid returns grids with the errors that Check returns for them.
func invalid() map[api.Errno][]api.Grid {
	return map[api.Errno][]api.Grid{
		api.ErrMany: {
			{W: 65, H: 1, Bits: make([]bool, 65)}, {W: 1, H: 65, Bits: make([]bool, 65)},
			{W: math.MaxInt, H: math.MaxInt}, {W: math.MinInt, H: math.MaxInt}, {W: 65, H: -1},
		},
		api.ErrBad: {
			{}, {W: 1, H: 1}, {W: 2, H: 2, Bits: make([]bool, 3)}, {W: 2, H: 2, Bits: make([]bool, 5)},
			{W: -1, H: -1, Bits: make([]bool, 1)}, {W: math.MinInt, H: 2}, {H: 3}, {W: 3},
		},
	}
}

// R1, R7: the error of Check comes first, with no other result.
func TestErrorOfCheckFirst(t *testing.T) {
	for want, l := range invalid() {
		for _, g := range l {
			if e := grid.Check(g); e != want {
				t.Errorf("Check(%v): %d, want %d", g, e, want)
			}
			if n, e := grid.Count(g); n != 0 || e != want {
				t.Errorf("Count(%v): %d, %d, want %d", g, n, e, want)
			}
			if s, e := grid.Text(g); s != "" || e != want {
				t.Errorf("Text(%v): %q, %d, want %d", g, s, e, want)
			}
			for _, c := range append(makers(), misuses()...) {
				if h, e := c.do(g); e != want || h.W != 0 || h.H != 0 || h.Bits != nil {
					t.Errorf("%s of %v: %v, %d, want %d", c.name, g, h, e, want)
				}
			}
		}
	}
}

// R1: a wrong argument beside a valid grid is ErrArg, even if too much of it
// would be asked for as well.
func TestMisuses(t *testing.T) {
	for _, g := range samples() {
		for _, c := range misuses() {
			if h, e := c.do(g); e != api.ErrArg || h.W != 0 || h.H != 0 || h.Bits != nil {
				t.Errorf("%s of %d by %d: %v, %d", c.name, g.W, g.H, h, e)
			}
		}
	}
}

// R1: the first grid's error comes before the second one's, and this one
// before that of sides that differ.
func TestErrorsOfTwoGrids(t *testing.T) {
	many, bad, fine := api.Grid{W: 65, H: 1}, api.Grid{W: 1, H: 1}, read(t, "xx\n")
	for _, k := range []struct {
		a, b api.Grid
		want api.Errno
	}{
		{many, bad, api.ErrMany}, {bad, many, api.ErrBad},
		{fine, many, api.ErrMany}, {fine, bad, api.ErrBad},
		{many, fine, api.ErrMany}, {bad, fine, api.ErrBad},
		{fine, read(t, "x\n"), api.ErrArg}, {fine, fine, api.OK},
	} {
		for _, f := range []func(a, b api.Grid) (api.Grid, api.Errno){grid.And, grid.Or} {
			g, e := f(k.a, k.b)
			if e != k.want || (e != api.OK && (g.W != 0 || g.H != 0 || g.Bits != nil)) {
				t.Errorf("%v and %v: %v, %d, want %d", k.a, k.b, g, e, k.want)
			}
		}
	}
}

// spare returns a copy of a grid whose memory goes on behind its cells, and
// that memory.
func spare(g api.Grid, fill bool) (api.Grid, []bool) {
	all := slices.Concat(g.Bits, slices.Repeat([]bool{fill}, len(g.Bits)+1))
	g.Bits = all[:len(g.Bits)]
	return g, all
}

// R2: the arguments stay as they are, with the memory behind them.
func TestArgumentsStay(t *testing.T) {
	for _, g := range samples() {
		for _, fill := range []bool{false, true} {
			g, all := spare(g, fill)
			before := slices.Clone(all)
			for _, c := range append(makers(), misuses()...) {
				c.do(g)
			}
			grid.Check(g)
			grid.Count(g)
			grid.Text(g)
			grid.Same(g, g)
			if !slices.Equal(all, before) {
				t.Fatalf("the argument %d by %d was changed", g.W, g.H)
			}
		}
	}
}

// R2: a result can be changed without effect on arguments or other results.
func TestResultsAreNewMemory(t *testing.T) {
	flip := func(g api.Grid) {
		for i := range g.Bits[:cap(g.Bits)] {
			g.Bits[:cap(g.Bits)][i] = !g.Bits[:cap(g.Bits)][i]
		}
	}
	for _, g := range samples() {
		g, all := spare(g, false)
		before := slices.Clone(all)
		for _, c := range append(makers(), call{"Parse", func(g api.Grid) (api.Grid, api.Errno) {
			s, _ := grid.Text(g)
			return grid.Parse(s)
		}}) {
			first, second := must(t)(c.do(g)), must(t)(c.do(g))
			kept := slices.Clone(second.Bits)
			flip(first)
			if !slices.Equal(all, before) || !slices.Equal(second.Bits, kept) {
				t.Fatalf("%s of %d by %d shares its memory", c.name, g.W, g.H)
			}
			third := must(t)(c.do(g))
			if !grid.Same(third, second) {
				t.Fatalf("%s of %d by %d keeps something", c.name, g.W, g.H)
			}
		}
	}
}

// R7: no call panics, whatever its arguments are.
func TestNoPanic(t *testing.T) {
	numbers := []int{math.MinInt, -65, -1, 0, 1, 2, 64, 65, math.MaxInt}
	grids := []api.Grid{pattern(2, 3), pattern(64, 64), pattern(1, 1)}
	for _, l := range invalid() {
		grids = append(grids, l...)
	}
	for _, g := range grids {
		for _, h := range grids {
			grid.And(g, h)
			grid.Or(g, h)
			grid.Same(g, h)
		}
		for _, a := range numbers {
			grid.Mirror(g, a)
			for _, b := range numbers {
				grid.Shift(g, a, b)
				grid.Tile(g, a, b)
				for _, c := range numbers {
					for _, d := range numbers {
						grid.Part(g, a, b, c, d)
					}
				}
			}
		}
	}
}
