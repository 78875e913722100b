package float_test

import (
	"math"
	"slices"
	"testing"

	"raddle/api"
	"raddle/float"
)

// invalid returns grids with the errors that grid.Check returns for them.
func invalid() map[api.Errno][]api.Grid {
	bits := func(n int) []bool { return make([]bool, n) }
	return map[api.Errno][]api.Grid{
		api.ErrMany: {
			{W: 65, H: 1, Bits: bits(65)}, {W: 1, H: 65, Bits: bits(65)}, {W: 65}, {W: -1, H: 65}, {W: 65, H: 65, Bits: bits(65 * 65)},
			{W: math.MaxInt, H: math.MinInt}, {W: math.MinInt, H: math.MaxInt}, {W: math.MaxInt, H: math.MaxInt},
		},
		api.ErrBad: {
			{}, {W: 1}, {H: 1, Bits: bits(1)}, {W: 1, H: 1}, {W: -1, H: -1, Bits: bits(1)}, {W: 2, H: 3}, {W: 2, H: 3, Bits: bits(5)},
			{W: 2, H: 3, Bits: bits(7)}, {W: math.MinInt, H: math.MinInt}, {W: 64, H: 64, Bits: bits(256)}, {W: 0, H: 64, Bits: bits(64)},
		},
	}
}

// notSides returns numbers that are no sides.
func notSides() []int {
	return []int{math.MinInt, math.MinInt + 1, -1 << 32, -2, -1, 2, 3, 4, 64, 255, 256, 1 << 32, 1<<32 + 1, math.MaxInt - 1, math.MaxInt}
}

// negative returns numbers that are less than 0.
func negative() []int {
	return []int{math.MinInt, math.MinInt + 1, -1 << 32, -65, -64, -2, -1}
}

// wantNoSide checks that the floats of a side are not returned.
func wantNoSide(t *testing.T, g api.Grid, side int, want api.Errno) {
	t.Helper()
	if l, e := float.List(g, side); len(l) > 0 || e != want {
		t.Errorf("List of the side %d of %d by %d: %v, %d, want %d", side, g.W, g.H, l, e, want)
	}
	if n, e := float.Longest(g, side); n != 0 || e != want {
		t.Errorf("Longest of the side %d of %d by %d: %d, %d, want %d", side, g.W, g.H, n, e, want)
	}
}

// wantNoOver checks that no floats are returned.
func wantNoOver(t *testing.T, g api.Grid, most int, want api.Errno) {
	t.Helper()
	if l, e := float.Over(g, most); len(l) > 0 || e != want {
		t.Errorf("Over(%d) of %d by %d: %v, %d, want %d", most, g.W, g.H, l, e, want)
	}
}

// wantNoThread checks that no crossings are returned.
func wantNoThread(t *testing.T, g api.Grid, warp bool, at int, want api.Errno) {
	t.Helper()
	if n, e := float.Crossings(g, warp, at); n != 0 || e != want {
		t.Errorf("Crossings(%v, %d) of %d by %d: %d, %d, want %d", warp, at, g.W, g.H, n, e, want)
	}
}

// R1: the error of a grid comes first, whatever the other arguments are, with
// no other result.
func TestErrorsOfGrids(t *testing.T) {
	for want, l := range invalid() {
		for _, g := range l {
			for _, n := range append(notSides(), 0, 1) {
				wantNoSide(t, g, n, want)
				wantNoOver(t, g, n, want)
				wantNoThread(t, g, true, n, want)
				wantNoThread(t, g, false, n, want)
			}
			if warp, weft, e := float.Count(g); warp != 0 || weft != 0 || e != want {
				t.Errorf("Count of %d by %d: %d, %d, %d, want %d", g.W, g.H, warp, weft, e, want)
			}
		}
	}
}

// R1: sides other than 0 and 1.
func TestErrorsOfSides(t *testing.T) {
	for _, g := range append(samples(), small(4)...) {
		for _, side := range notSides() {
			wantNoSide(t, g, side, api.ErrArg)
		}
	}
}

// R1: Over of a number less than 0. Of 0 it is no error.
func TestErrorsOfOver(t *testing.T) {
	for _, g := range append(samples(), small(4)...) {
		for _, most := range negative() {
			wantNoOver(t, g, most, api.ErrArg)
		}
		if _, e := float.Over(g, 0); e != api.OK {
			t.Errorf("Over(0): %d, for%s", e, show(g))
		}
	}
}

// R1: numbers of threads that are less than 0 or too great. There are as many
// ends as columns, and as many picks as rows.
func TestErrorsOfThreads(t *testing.T) {
	for _, g := range append(samples(), small(4)...) {
		for _, at := range append(negative(), 64, 65, 4096, 1<<32, 1<<32+1, math.MaxInt-1, math.MaxInt) {
			wantNoThread(t, g, true, at, api.ErrArg)
			wantNoThread(t, g, false, at, api.ErrArg)
		}
		for at := range 66 {
			if at >= g.W {
				wantNoThread(t, g, true, at, api.ErrArg)
			}
			if at >= g.H {
				wantNoThread(t, g, false, at, api.ErrArg)
			}
		}
	}
}

// spare returns a copy of a grid whose memory goes on behind its cells.
func spare(g api.Grid) api.Grid {
	g.Bits = append(slices.Clone(g.Bits), slices.Repeat([]bool{true, false}, 70)...)[:len(g.Bits)]
	return g
}

// memory returns a copy of all memory of the cells of a grid.
func memory(g api.Grid) []bool { return slices.Clone(g.Bits[:cap(g.Bits)]) }

// call calls all functions of the package with a grid.
func call(g api.Grid, numbers ...int) {
	for _, n := range numbers {
		float.List(g, n)
		float.Longest(g, n)
		float.Over(g, n)
		float.Crossings(g, true, n)
		float.Crossings(g, false, n)
	}
	float.Count(g)
}

// R2: the arguments stay as they are, with the memory behind them.
func TestArgumentsStay(t *testing.T) {
	grids := append(samples(), small(4)...)
	for _, l := range invalid() {
		grids = append(grids, l...)
	}
	for _, g := range grids {
		given := spare(g)
		was := memory(given)
		call(given, -1, 0, 1, 2, 63, 64)
		if !slices.Equal(memory(given), was) {
			t.Fatalf("the argument %s was changed", show(g))
		}
	}
}

// spoil changes all memory of a list of floats.
func spoil(l []api.Float) {
	l = l[:cap(l)]
	for i := range l {
		l[i] = api.Float{Warp: !l[i].Warp, At: -1, From: -1, Length: -1, Whole: !l[i].Whole}
	}
}

// R2: a result can be changed without effect on arguments, other results or
// later calls.
func TestResultsAreNewMemory(t *testing.T) {
	for _, g := range append(samples(), small(6)...) {
		given := spare(g)
		was := memory(given)
		for side := range 2 {
			first, _ := float.List(given, side)
			second, _ := float.List(given, side)
			kept := slices.Clone(second)
			spoil(first)
			if !slices.Equal(second, kept) {
				t.Fatalf("two lists share their memory, for%s", show(g))
			}
			wantList(t, given, side, kept...)
		}
		first, _ := float.Over(given, 0)
		second, _ := float.Over(given, 0)
		kept := slices.Clone(second)
		spoil(first)
		if !slices.Equal(second, kept) {
			t.Fatalf("two lists of Over share their memory, for%s", show(g))
		}
		wantOver(t, given, 0, kept...)
		if !slices.Equal(memory(given), was) {
			t.Fatalf("the results share their memory with%s", show(g))
		}
	}
}

// R2: a call that returns an error has no effect on the ones after it.
func TestNothingIsKept(t *testing.T) {
	g := random(11, 13)
	for _, l := range invalid() {
		for _, other := range l {
			call(other, -1, 0, 1, 2)
			call(g, -1, 2, 64)
			for side := range 2 {
				wantList(t, g, side, listed(g, side)...)
			}
		}
	}
}

// R7: no call panics, and all of them end, whatever their arguments are.
func TestNoPanic(t *testing.T) {
	numbers := []int{math.MinInt, math.MinInt + 1, -65, -1, 0, 1, 2, 63, 64, 65, 4096, math.MaxInt - 1, math.MaxInt}
	for _, w := range numbers {
		for _, h := range numbers {
			for _, n := range []int{0, 1, 2, 4, 63, 64, 128, 4096} {
				call(api.Grid{W: w, H: h, Bits: make([]bool, n)}, numbers...)
			}
		}
	}
}
