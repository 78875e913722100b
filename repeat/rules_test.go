package repeat_test

import (
	"math"
	"slices"
	"testing"

	"raddle/api"
	"raddle/grid"
	"raddle/repeat"
)

// noGrids returns values that are no valid grids, by their errors.
func noGrids() map[api.Errno][]api.Grid {
	bits := func(n int) []bool { return make([]bool, n) }
	return map[api.Errno][]api.Grid{
		api.ErrMany: {
			{W: 65, H: 1, Bits: bits(65)}, {W: 1, H: 65, Bits: bits(65)}, {W: 65}, {W: -1, H: 65}, {W: 65, H: 65, Bits: bits(65 * 65)},
			{W: math.MaxInt, H: math.MinInt}, {W: math.MinInt, H: math.MaxInt}, {W: math.MaxInt, H: math.MaxInt},
		},
		api.ErrBad: {
			{}, {W: 1}, {H: 1, Bits: bits(1)}, {W: -1, H: -1, Bits: bits(1)}, {W: 2, H: 3}, {W: 2, H: 3, Bits: bits(5)},
			{W: 2, H: 3, Bits: bits(7)}, {W: math.MinInt, H: math.MinInt}, {W: 64, H: 64, Bits: bits(4095)}, {W: 0, H: 64},
		},
	}
}

// R1: the error of a grid comes first, whatever the other arguments are.
func TestErrorsOfGrids(t *testing.T) {
	for want, grids := range noGrids() {
		for _, g := range grids {
			for _, d := range []int{math.MinInt, -1, 0, 1, 64, 65, math.MaxInt} {
				if is, e := repeat.Is(g, d, -d); is || e != want {
					t.Errorf("Is of %d by %d: %v, %d, want %d", g.W, g.H, is, e, want)
				}
				for _, b := range []int{-1, 0, 64, math.MaxInt} {
					wantNoSpread(t, g, b, d, 65, want)
					wantNoSpread(t, g, b, 65, d, want)
				}
			}
			if l, e := repeat.Of(g); l != (api.Lattice{}) || e != want {
				t.Errorf("Of %d by %d: %v, %d, want %d", g.W, g.H, l, e, want)
			}
			if c, e := repeat.Cell(g); !grid.Same(c, api.Grid{}) || e != want {
				t.Errorf("Cell of %d by %d: %v, %d, want %d", g.W, g.H, c, e, want)
			}
			if w, h, e := repeat.Rect(g); w != 0 || h != 0 || e != want {
				t.Errorf("Rect of %d by %d: %d, %d, %d, want %d", g.W, g.H, w, h, e, want)
			}
		}
	}
}

// R1: the error of the first grid comes before that of the second one, and both
// before that there is no offset.
func TestErrorsOfOffset(t *testing.T) {
	try := func(a, b api.Grid, want api.Errno) {
		t.Helper()
		if p, e := repeat.Offset(a, b); p != (api.Point{}) || e != want {
			t.Errorf("Offset of %d by %d and %d by %d: %v, %d, want %d", a.W, a.H, b.W, b.H, p, e, want)
		}
	}
	for first, as := range noGrids() {
		for _, a := range as {
			for _, g := range []api.Grid{blank(1, 1, true), random(64, 64), dot(2, 3, 1, 1)} {
				try(a, g, first)
				try(g, a, first)
			}
			for _, bs := range noGrids() {
				for _, b := range bs {
					try(a, b, first)
				}
			}
		}
	}
	try(blank(1, 1, true), blank(1, 1, false), api.ErrNone)
	try(random(64, 64), random(63, 64), api.ErrNone)
}

// wantNoSpread checks that a cell is not spread, with no other result.
func wantNoSpread(t *testing.T, cell api.Grid, b, w, h int, want api.Errno) {
	t.Helper()
	if g, e := repeat.Spread(cell, b, w, h); !grid.Same(g, api.Grid{}) || e != want {
		t.Errorf("Spread of %d by %d by %d to %d by %d: %v, %d, want %d", cell.W, cell.H, b, w, h, g, e, want)
	}
}

// R1: what is no argument comes before what is too many.
func TestErrorsOfSpread(t *testing.T) {
	little := []int{math.MinInt, math.MinInt + 1, -64, -1, 0}
	great := []int{65, 66, 128, 1 << 32, math.MaxInt - 1, math.MaxInt}
	for _, cell := range []api.Grid{blank(1, 1, true), random(3, 2), random(1, 64), random(64, 1), random(64, 64)} {
		for _, b := range []int{math.MinInt, -64, -1, cell.W, cell.W + 1, 65, math.MaxInt} {
			for _, n := range append(append([]int{1, 2, 64}, little...), great...) {
				wantNoSpread(t, cell, b, n, 1, api.ErrArg)
				wantNoSpread(t, cell, b, 64, n, api.ErrArg)
				wantNoSpread(t, cell, b, n, n, api.ErrArg)
			}
		}
		for _, b := range []int{0, cell.W - 1} {
			for _, n := range little {
				for _, m := range append(append([]int{1, 2, 64}, little...), great...) {
					wantNoSpread(t, cell, b, n, m, api.ErrArg)
					wantNoSpread(t, cell, b, m, n, api.ErrArg)
				}
			}
			for _, n := range great {
				for _, m := range append([]int{1, 2, 64}, great...) {
					wantNoSpread(t, cell, b, n, m, api.ErrMany)
					wantNoSpread(t, cell, b, m, n, api.ErrMany)
				}
			}
		}
	}
}

// R1
func TestErrorsOfLattices(t *testing.T) {
	for _, l := range []api.Lattice{
		{}, {A: 1}, {C: 1}, {A: 0, B: 0, C: 1}, {A: 1, B: 0, C: 0}, {A: -1, C: 1}, {A: 1, C: -1}, {A: 65, C: 1}, {A: 1, C: 65},
		{A: 1, B: 1, C: 1}, {A: 1, B: -1, C: 1}, {A: 64, B: 64, C: 64}, {A: 64, B: 65, C: 64}, {A: 2, B: 3, C: 1},
		{A: -1, B: -2, C: 1}, {A: math.MinInt, B: 0, C: 1}, {A: math.MaxInt, B: 5, C: 1}, {A: 1, C: math.MinInt}, {A: 1, C: math.MaxInt},
		{A: 3, B: math.MinInt, C: 1}, {A: 3, B: math.MaxInt, C: 1}, {A: math.MinInt, B: math.MaxInt, C: 1},
	} {
		if e := repeat.Check(l); e != api.ErrBad {
			t.Errorf("Check of %v: %d", l, e)
		}
		for _, d := range []int{math.MinInt, -1, 0, 1, 64, math.MaxInt} {
			if in, e := repeat.In(l, d, 0); in || e != api.ErrBad {
				t.Errorf("In(%v, %d, 0): %v, %d", l, d, in, e)
			}
			if in, e := repeat.In(l, 0, d); in || e != api.ErrBad {
				t.Errorf("In(%v, 0, %d): %v, %d", l, d, in, e)
			}
		}
	}
}

// spare returns a copy of a grid whose memory goes on behind its cells.
func spare(g api.Grid) api.Grid {
	g.Bits = append(slices.Clone(g.Bits), slices.Repeat([]bool{true, false}, 70)...)[:len(g.Bits)]
	return g
}

// memory returns a copy of all memory of the cells of a grid.
func memory(g api.Grid) []bool { return slices.Clone(g.Bits[:cap(g.Bits)]) }

// spoil changes all memory of the cells of a grid.
func spoil(g api.Grid) {
	bits := g.Bits[:cap(g.Bits)]
	for i := range bits {
		bits[i] = !bits[i]
	}
}

// R2: the arguments stay as they are, with the memory behind them.
func TestArgumentsStay(t *testing.T) {
	grids := append(samples(), small(4)...)
	for _, l := range noGrids() {
		grids = append(grids, l...)
	}
	for _, g := range grids {
		a, b := spare(g), spare(g)
		was := memory(a)
		repeat.Is(a, 1, 1)
		repeat.Of(a)
		repeat.Cell(a)
		repeat.Spread(a, 0, 64, 64)
		repeat.Spread(a, g.W-1, 3, 2)
		repeat.Spread(a, -1, 3, 2)
		repeat.Rect(a)
		repeat.Offset(a, b)
		repeat.Offset(b, dot(5, 7, 1, 1))
		repeat.Offset(a, a)
		if !slices.Equal(memory(a), was) || !slices.Equal(memory(b), was) {
			t.Fatalf("the argument %s was changed", show(g))
		}
	}
}

// R2: a result can be changed without effect on arguments, or on later calls.
func TestResultsAreNewMemory(t *testing.T) {
	for _, g := range append(samples(), small(4)...) {
		kept := slices.Clone(g.Bits)
		cell, _ := repeat.Cell(g)
		keptCell := slices.Clone(cell.Bits)
		spoil(cell)
		again, e := repeat.Cell(g)
		wantGrid(t, "Cell again", again, e, api.Grid{W: cell.W, H: cell.H, Bits: keptCell})
		// Spread so, a grid is itself.
		same, e := repeat.Spread(g, 0, g.W, g.H)
		wantGrid(t, "Spread", same, e, g)
		spoil(same)
		same, e = repeat.Spread(g, 0, g.W, g.H)
		wantGrid(t, "Spread again", same, e, g)
		if !slices.Equal(g.Bits, kept) {
			t.Fatalf("the results share their memory with%s", show(g))
		}
	}
}

// R7: no call panics, and all of them end, whatever their arguments are.
func TestNoPanic(t *testing.T) {
	numbers := []int{math.MinInt, math.MinInt + 1, -64, -1, 0, 1, 2, 3, 5, 63, 64, 65, 4096, math.MaxInt - 1, math.MaxInt}
	fixed := random(7, 5)
	for _, w := range numbers {
		for _, h := range numbers {
			for _, n := range []int{0, 1, 4, 15, 4096} {
				g := api.Grid{W: w, H: h, Bits: make([]bool, n)}
				repeat.Of(g)
				repeat.Cell(g)
				repeat.Rect(g)
				repeat.Offset(g, fixed)
				repeat.Offset(fixed, g)
				repeat.Offset(g, g)
				for _, v := range numbers {
					repeat.Is(g, v, w)
					repeat.Is(g, h, v)
					repeat.Spread(g, v, w, h)
					repeat.Spread(g, w, h, v)
				}
			}
			repeat.Is(fixed, w, h)
			for _, v := range numbers {
				repeat.Spread(fixed, v, w, h)
				l := api.Lattice{A: w, B: v, C: h}
				repeat.Check(l)
				for _, dx := range numbers {
					for _, dy := range numbers {
						repeat.In(l, dx, dy)
					}
				}
			}
		}
	}
}
