package satin_test

import (
	"math"
	"slices"
	"testing"

	"raddle/api"
	"raddle/grid"
	"raddle/satin"
)

// invalid returns grids with the errors that grid.Check returns for them.
func invalid() map[api.Errno][]api.Grid {
	bits := func(n int) []bool { return make([]bool, n) }
	return map[api.Errno][]api.Grid{
		api.ErrMany: {
			{W: 65, H: 1, Bits: bits(65)}, {W: 1, H: 65, Bits: bits(65)}, {W: 65}, {W: -1, H: 65}, {W: 65, H: 65, Bits: bits(65 * 65)},
			{W: math.MaxInt, H: math.MinInt}, {W: math.MinInt, H: math.MaxInt}, {W: math.MaxInt, H: math.MaxInt},
		},
		api.ErrBad: {
			{}, {W: 1}, {H: 1, Bits: bits(1)}, {W: 1, H: 1}, {W: -1, H: -1, Bits: bits(1)}, {W: 2, H: 3}, {W: 2, H: 3, Bits: bits(5)},
			{W: 2, H: 3, Bits: bits(7)}, {W: math.MinInt, H: math.MinInt}, {W: 64, H: 64, Bits: bits(256)}, {W: 0, H: 64, Bits: bits(64)},
			{W: 5, H: 5, Bits: bits(24)},
		},
	}
}

// noNumbers returns numbers that are less than 5 or greater than MaxSide.
func noNumbers() []int {
	return []int{math.MinInt, math.MinInt + 1, -1 << 32, -64, -7, -5, -1, 0, 1, 2, 3, 4, 65, 66, 67, 101, 128, 4096, 1<<32 + 7, math.MaxInt - 1, math.MaxInt}
}

// far returns numbers of all sizes.
func far() []int {
	return []int{math.MinInt, math.MinInt + 1, -1 << 32, -65, -64, -3, -2, -1, 0, 1, 2, 3, 5, 6, 63, 64, 65, 4096, 1 << 32, 1<<32 + 3, math.MaxInt - 1, math.MaxInt}
}

// wantNoMade checks that a satin is not made.
func wantNoMade(t *testing.T, n, m int) {
	t.Helper()
	if g, e := satin.Satin(n, m); !grid.Same(g, api.Grid{}) || e != api.ErrArg {
		t.Errorf("Satin(%d, %d): %d,%s", n, m, e, show(g))
	}
}

// R1: numbers that have no moves.
func TestErrorsOfNumbers(t *testing.T) {
	for _, n := range noNumbers() {
		if l, e := satin.Counters(n); len(l) > 0 || e != api.ErrArg {
			t.Errorf("Counters(%d): %v, %d", n, l, e)
		}
		for _, m := range append(far(), n-3, n-2, n-1, n, n/2) {
			wantNoMade(t, n, m)
		}
	}
}

// R1: moves that are none: the least and the greatest, and such as have a
// divisor in common with the number.
func TestErrorsOfMoves(t *testing.T) {
	for n := 5; n <= 64; n++ {
		for m := -70; m <= 140; m++ {
			_, e := satin.Satin(n, m)
			if is := slices.Contains(movesOf(n), m); is && e != api.OK {
				t.Errorf("Satin(%d, %d): %d", n, m, e)
			} else if !is {
				wantNoMade(t, n, m)
			}
		}
		for _, m := range []int{math.MinInt, math.MinInt + 2, -1 << 32, 1<<32 + 3, math.MaxInt - 2, math.MaxInt} {
			wantNoMade(t, n, m)
		}
	}
}

// noRuns returns lists that are no runs.
func noRuns() [][]int {
	l := [][]int{
		nil, {}, {1}, {2}, {64}, {65}, {1, 1, 1}, {1, 2, 3, 4, 5}, slices.Repeat([]int{1}, 63), slices.Repeat([]int{1}, 61),
		{0}, {0, 0}, {0, 1}, {1, 0}, {0, 64}, {64, 0}, {1, 1, 0, 1}, {1, 1, 1, 0}, {2, 2, -1, 2}, {-1, 2}, {2, -1}, {-1, -1}, {-2, 66}, {66, -2},
		{65, -1, 1, 1}, {1, 64}, {64, 1}, {32, 33}, {33, 32}, {64, 64}, {16, 16, 16, 17}, {1, 1, 1, 62}, {1 << 32, 1 << 32},
		slices.Repeat([]int{1}, 65), slices.Repeat([]int{1}, 66), slices.Repeat([]int{1}, 4096), slices.Repeat([]int{0}, 66), make([]int, 4096),
		append(slices.Repeat([]int{1}, 63), 2), append(slices.Repeat([]int{1}, 64), 0, 0), append(slices.Repeat([]int{1}, 65), -1),
		append(slices.Repeat([]int{1}, 62), 0, 1), append(slices.Repeat([]int{1}, 30), 0, 0),
		// As wrapped numbers, these sums are small again.
		{math.MaxInt, math.MaxInt, 1, 1}, {math.MaxInt, math.MaxInt, 2, 8}, {math.MaxInt, 1}, {1, math.MaxInt}, {math.MinInt, math.MinInt},
		{math.MinInt, math.MinInt, 2, 2}, {math.MaxInt, math.MinInt, 1, 4}, {math.MaxInt, math.MinInt, 2, 8}, {1 << 62, 1 << 62, 1 << 62, 1 << 62},
		{1 << 62, 1 << 62, 1 << 62, 1<<62 + 8}, {1 << 62, 1}, {4, 1 << 62, 1 << 62, 1 << 62, 1 << 62, 4},
	}
	for _, n := range []int{math.MinInt, -65, -1, 0, 65, math.MaxInt} {
		l = append(l, []int{n, 2}, []int{2, n}, []int{2, 2, n, 2}, []int{2, 2, 2, n}, []int{n, n})
	}
	return l
}

// R1: runs that are none, with any step.
func TestErrorsOfTwills(t *testing.T) {
	for _, runs := range noRuns() {
		for _, step := range far() {
			if g, e := satin.Twill(runs, step); !grid.Same(g, api.Grid{}) || e != api.ErrBad {
				t.Errorf("Twill(%v, %d): %d,%s", runs, step, e, show(g))
			}
		}
	}
}

// wantNoRuns checks that the runs of a row are not returned.
func wantNoRuns(t *testing.T, row []bool, want api.Errno) {
	t.Helper()
	if l, e := satin.Runs(row); len(l) > 0 || e != want {
		t.Errorf("Runs of %d cells: %v, %d, want %d", len(row), l, e, want)
	}
}

// R1: rows that are empty, of one cell, with the first cell down or the last
// one up, and too long.
func TestErrorsOfRuns(t *testing.T) {
	wantNoRuns(t, nil, api.ErrBad)
	wantNoRuns(t, []bool{}, api.ErrBad)
	wantNoRuns(t, []bool{true}, api.ErrBad)
	wantNoRuns(t, []bool{false}, api.ErrBad)
	for n := 2; n <= 200; n++ {
		for _, first := range []bool{true, false} {
			for _, last := range []bool{true, false} {
				for _, inner := range []bool{true, false} {
					row := slices.Repeat([]bool{inner}, n)
					row[0], row[n-1] = first, last
					if n > 64 {
						wantNoRuns(t, row, api.ErrMany)
					} else if !first || last {
						wantNoRuns(t, row, api.ErrBad)
					} else if _, e := satin.Runs(row); e != api.OK {
						t.Errorf("Runs of %d cells: %d", n, e)
					}
				}
			}
		}
	}
}

// R1: the error of a grid, and no other result.
func TestErrorsOfGrids(t *testing.T) {
	for want, l := range invalid() {
		for _, g := range l {
			wantNoSatin(t, g, want)
			if moves, e := satin.Moves(g); len(moves) > 0 || e != want {
				t.Errorf("Moves of %d by %d: %v, %d, want %d", g.W, g.H, moves, e, want)
			}
		}
	}
}

// spare returns a copy of a slice whose memory goes on behind its elements.
func spare[T any](l []T, more ...T) []T {
	return append(slices.Clone(l), slices.Repeat(more, 70)...)[:len(l)]
}

// memory returns a copy of all memory of a slice.
func memory[T any](l []T) []T { return slices.Clone(l[:cap(l)]) }

// R2: the arguments stay as they are, with the memory behind them.
func TestArgumentsStay(t *testing.T) {
	grids := append(samples(), small(4)...)
	for _, l := range invalid() {
		grids = append(grids, l...)
	}
	satins(func(n, m int, g api.Grid) { grids = append(grids, g) })
	for _, g := range grids {
		given := api.Grid{W: g.W, H: g.H, Bits: spare(g.Bits, true, false)}
		was := memory(given.Bits)
		satin.Moves(given)
		satin.Is(given)
		satin.Runs(given.Bits)
		if !slices.Equal(memory(given.Bits), was) {
			t.Fatalf("the argument %s was changed", show(g))
		}
	}
	for _, runs := range slices.Concat(noRuns(), greatRuns(), runsUpTo(6)) {
		given := spare(runs, 1, 2)
		row := spare(lineOf(slices.DeleteFunc(slices.Clone(runs), func(n int) bool { return n < 1 || n > 65 })), true, false)
		was, wasRow := memory(given), memory(row)
		for _, step := range far() {
			satin.Twill(given, step)
		}
		satin.Runs(row)
		if !slices.Equal(memory(given), was) || !slices.Equal(memory(row), wasRow) {
			t.Fatalf("the argument %v was changed", runs)
		}
	}
}

// spoil gives all memory of a slice other elements.
func spoil[T any](l []T, other func(T) T) {
	l = l[:cap(l)]
	for i := range l {
		l[i] = other(l[i])
	}
}

func minus(n int) int    { return -1 - n }
func negate(b bool) bool { return !b }

// R2: a result can be changed without effect on arguments, other results or
// later calls.
func TestResultsAreNewMemory(t *testing.T) {
	satins(func(n, m int, want api.Grid) {
		first, _ := satin.Satin(n, m)
		second, _ := satin.Satin(n, m)
		spoil(first.Bits, negate)
		wantGrid(t, "Satin", second, api.OK, want)
		moves, _ := satin.Moves(second)
		again, _ := satin.Moves(second)
		spoil(moves, minus)
		if !slices.Equal(again, []int{m}) {
			t.Fatalf("two lists of Moves share their memory")
		}
		wantMoves(t, second, m)
		moves, _ = satin.Counters(n)
		spoil(moves, minus)
		wantCounters(t, n, movesOf(n)...)
		wantGrid(t, "the argument", second, api.OK, want)
	})
	for _, runs := range append(greatRuns(), runsUpTo(6)...) {
		given := slices.Clone(runs)
		for _, step := range []int{0, 1, 5} {
			g, _ := satin.Twill(given, step)
			again, _ := satin.Twill(given, step)
			spoil(g.Bits, negate)
			wantGrid(t, "Twill", again, api.OK, twillOf(runs, step))
			wantTwill(t, given, step, twillOf(runs, step))
		}
		row := lineOf(runs)
		l, _ := satin.Runs(row)
		spoil(l, minus)
		wantRuns(t, row, runs...)
		if !slices.Equal(given, runs) || !slices.Equal(row, lineOf(runs)) {
			t.Fatalf("the results share their memory with %v", runs)
		}
	}
}

// R2: a call that returns an error has no effect on the ones after it.
func TestNothingIsKept(t *testing.T) {
	for want, l := range invalid() {
		for _, g := range l {
			wantNoSatin(t, g, want)
			satin.Moves(g)
			satin.Counters(g.W)
			satin.Satin(6, 2)
			satin.Twill([]int{2, 2, 2}, 1)
			satin.Runs([]bool{false})
			TestExamples(t)
			wantSatin(t, satinOf(7, 3), known{7, 3, true})
			wantMoves(t, satinOf(7, 3), 3)
		}
	}
}

// R7: no call panics, and all of them end, whatever their arguments are.
func TestNoPanic(t *testing.T) {
	for _, w := range far() {
		satin.Counters(w)
		for _, h := range far() {
			satin.Satin(w, h)
			for _, n := range []int{0, 1, 2, 4, 5, 25, 63, 64, 128, 4096} {
				g := api.Grid{W: w, H: h, Bits: make([]bool, n)}
				satin.Moves(g)
				satin.Is(g)
			}
			for _, step := range far() {
				satin.Twill([]int{w, h}, step)
				satin.Twill([]int{2, w, h, 2}, step)
				satin.Twill([]int{2, step, 2}, w)
			}
		}
	}
	satin.Runs(make([]bool, 1<<20))
	satin.Twill(make([]int, 1<<20), 1)
	satin.Twill(slices.Repeat([]int{1}, 1<<20), 1)
}
