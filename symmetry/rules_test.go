package symmetry_test

import (
	"math"
	"slices"
	"testing"

	"raddle/api"
	"raddle/grid"
	"raddle/symmetry"
)

// noMotifs returns grids that have no motif, by their errors: first those that
// are not valid, by grid.Check's one, and at last valid ones with a side that
// is too great.
func noMotifs() []struct {
	e     api.Errno
	valid bool
	grids []api.Grid
} {
	bits := func(n int) []bool { return make([]bool, n) }
	return []struct {
		e     api.Errno
		valid bool
		grids []api.Grid
	}{
		{api.ErrMany, false, []api.Grid{
			{W: 65, H: 1, Bits: bits(65)}, {W: 1, H: 65, Bits: bits(65)}, {W: 65}, {W: -1, H: 65}, {W: 65, H: 65, Bits: bits(65 * 65)},
			{W: math.MaxInt, H: math.MinInt}, {W: math.MinInt, H: math.MaxInt}, {W: math.MaxInt, H: math.MaxInt},
		}},
		{api.ErrBad, false, []api.Grid{
			{}, {W: 1}, {H: 1, Bits: bits(1)}, {W: -1, H: -1, Bits: bits(1)}, {W: 2, H: 3}, {W: 2, H: 3, Bits: bits(5)}, {W: 17, H: 0},
			{W: 2, H: 3, Bits: bits(7)}, {W: math.MinInt, H: math.MinInt}, {W: 17, H: 17, Bits: bits(288)}, {W: 64, H: 64, Bits: bits(256)},
			{W: 17, H: 1}, {W: 0, H: 17, Bits: bits(17)}, {W: 16, H: 64, Bits: bits(256)},
		}},
		{api.ErrMany, true, []api.Grid{
			blank(17, 1, true), blank(1, 17, false), random(17, 16), random(16, 17), random(17, 17), random(64, 64), blank(64, 64, true),
			dot(64, 1, 3, 0), dot(1, 64, 0, 3), build(32, 32, func(x, y int) bool { return (x+y)%2 == 0 }),
		}},
	}
}

// noOperations returns numbers that are none.
func noOperations() []int {
	return []int{math.MinInt, math.MinInt + 1, -1 << 32, -17, -16, -2, -1, 16, 17, 31, 32, 64, 1 << 32, math.MaxInt - 1, math.MaxInt}
}

// wantNoApply checks that no operation is applied, and none is had, with no
// other result.
func wantNoApply(t *testing.T, g api.Grid, op int, want api.Errno) {
	t.Helper()
	if a, e := symmetry.Apply(g, op); !grid.Same(a, api.Grid{}) || e != want {
		t.Errorf("Apply of %d to %d by %d: %v, %d, want %d", op, g.W, g.H, a, e, want)
	}
	if has, p, e := symmetry.Has(g, op); has || p != (api.Point{}) || e != want {
		t.Errorf("Has of %d by %d by %d: %v, %v, %d, want %d", op, g.W, g.H, has, p, e, want)
	}
}

// wantNotAlike checks that there are no operations of two grids.
func wantNotAlike(t *testing.T, a, b api.Grid, want api.Errno) {
	t.Helper()
	if ops, e := symmetry.Alike(a, b); len(ops) > 0 || e != want {
		t.Errorf("Alike of %d by %d and %d by %d: %v, %d, want %d", a.W, a.H, b.W, b.H, ops, e, want)
	}
}

// R1: the error of a grid comes first, and then that it has no motif, whatever
// the operation is.
func TestErrorsOfGrids(t *testing.T) {
	for _, l := range noMotifs() {
		for _, g := range l.grids {
			for _, op := range append(every(), noOperations()...) {
				wantNoApply(t, g, op, l.e)
			}
			if ops, e := symmetry.All(g); len(ops) > 0 || e != l.e {
				t.Errorf("All of %d by %d: %v, %d, want %d", g.W, g.H, ops, e, l.e)
			}
			if form, op, e := symmetry.Least(g); !grid.Same(form, api.Grid{}) || op != 0 || e != l.e {
				t.Errorf("Least of %d by %d: %v, %d, %d, want %d", g.W, g.H, form, op, e, l.e)
			}
		}
	}
}

// R1
func TestErrorsOfOperations(t *testing.T) {
	for _, op := range noOperations() {
		for _, g := range []api.Grid{blank(1, 1, true), random(3, 2), random(1, 16), random(16, 1), random(16, 16)} {
			wantNoApply(t, g, op, api.ErrArg)
		}
		if back, e := symmetry.Inverse(op); back != 0 || e != api.ErrArg {
			t.Errorf("Inverse(%d): %d, %d", op, back, e)
		}
		for _, other := range append(every(), noOperations()...) {
			if both, e := symmetry.Compose(op, other); both != 0 || e != api.ErrArg {
				t.Errorf("Compose(%d, %d): %d, %d", op, other, both, e)
			}
			if both, e := symmetry.Compose(other, op); both != 0 || e != api.ErrArg {
				t.Errorf("Compose(%d, %d): %d, %d", other, op, both, e)
			}
		}
	}
}

// R1: the error of the first grid that is not valid comes before that of the
// second one, and both before that one of them has no motif.
func TestErrorsOfTwoGrids(t *testing.T) {
	for _, first := range noMotifs() {
		for _, a := range first.grids {
			for _, g := range []api.Grid{blank(1, 1, true), random(16, 16), dot(2, 3, 1, 1)} {
				wantNotAlike(t, a, g, first.e)
				wantNotAlike(t, g, a, first.e)
			}
			for _, second := range noMotifs() {
				want := first.e
				if first.valid {
					want = second.e
				}
				for _, b := range second.grids {
					wantNotAlike(t, a, b, want)
				}
			}
		}
	}
	wantNotAlike(t, random(16, 16), random(15, 16), api.OK)
}

// R1: what a cloth has not is no error, and has no offset.
func TestNoErrors(t *testing.T) {
	for _, g := range append(samples(), small(4)...) {
		for op := range operations {
			has, p, e := symmetry.Has(g, op)
			if e != api.OK || !has && p != (api.Point{}) {
				t.Fatalf("Has of %d: %v, %v, %d, for%s", op, has, p, e, show(g))
			}
		}
	}
}

// spare returns a copy of a grid whose memory goes on behind its cells.
func spare(g api.Grid) api.Grid {
	g.Bits = append(slices.Clone(g.Bits), slices.Repeat([]bool{true, false}, 70)...)[:len(g.Bits)]
	return g
}

// memory returns a copy of all memory of the cells of a grid.
func memory(g api.Grid) []bool { return slices.Clone(g.Bits[:cap(g.Bits)]) }

// spoil changes all memory of the cells of a grid.
func spoil(g api.Grid) {
	bits := g.Bits[:cap(g.Bits)]
	for i := range bits {
		bits[i] = !bits[i]
	}
}

// R2: the arguments stay as they are, with the memory behind them.
func TestArgumentsStay(t *testing.T) {
	grids := append(samples(), small(4)...)
	for _, l := range noMotifs() {
		grids = append(grids, l.grids...)
	}
	for _, g := range grids {
		a, b := spare(g), spare(g)
		was := memory(a)
		for op := -1; op <= operations; op++ {
			symmetry.Apply(a, op)
			symmetry.Has(a, op)
		}
		symmetry.All(a)
		symmetry.Alike(a, b)
		symmetry.Alike(b, dot(5, 7, 1, 1))
		symmetry.Alike(a, a)
		symmetry.Least(a)
		if !slices.Equal(memory(a), was) || !slices.Equal(memory(b), was) {
			t.Fatalf("the argument %s was changed", show(g))
		}
	}
}

// R2: a result can be changed without effect on arguments, or on later calls.
func TestResultsAreNewMemory(t *testing.T) {
	for _, g := range append(samples(), small(4)...) {
		given := spare(g)
		kept := memory(given)
		for op := range operations {
			a, _ := symmetry.Apply(given, op)
			spoil(a)
			a, e := symmetry.Apply(given, op)
			wantGrid(t, "Apply again", a, e, applied(g, op))
		}
		form, by, _ := symmetry.Least(given)
		keptForm := api.Grid{W: form.W, H: form.H, Bits: slices.Clone(form.Bits)}
		spoil(form)
		wantLeast(t, given, keptForm, by)
		ops, _ := symmetry.All(given)
		keptOps := slices.Clone(ops)
		for i := range ops[:cap(ops)] {
			ops[:cap(ops)][i] = -1
		}
		ops, e := symmetry.All(given)
		wantOps(t, "All again", ops, e, keptOps...)
		if !slices.Equal(memory(given), kept) {
			t.Fatalf("the results share their memory with%s", show(g))
		}
	}
}

// R2: a least form that is the grid itself is new memory, too.
func TestLeastIsNewMemory(t *testing.T) {
	for _, g := range samples() {
		form, _, _ := symmetry.Least(g)
		kept := slices.Clone(form.Bits)
		again, _, _ := symmetry.Least(form)
		spoil(again)
		if !slices.Equal(form.Bits, kept) {
			t.Fatalf("the result shares its memory with%s", show(g))
		}
	}
}

// R7: no call panics, and all of them end, whatever their arguments are.
func TestNoPanic(t *testing.T) {
	numbers := []int{math.MinInt, math.MinInt + 1, -64, -1, 0, 1, 2, 4, 15, 16, 17, 64, 65, 4096, math.MaxInt - 1, math.MaxInt}
	fixed := random(7, 5)
	for _, w := range numbers {
		for _, h := range numbers {
			for _, n := range []int{0, 1, 4, 15, 17, 256, 4096} {
				g := api.Grid{W: w, H: h, Bits: make([]bool, n)}
				symmetry.All(g)
				symmetry.Least(g)
				symmetry.Alike(g, fixed)
				symmetry.Alike(fixed, g)
				symmetry.Alike(g, g)
				for _, op := range append(every(), numbers...) {
					symmetry.Apply(g, op)
					symmetry.Has(g, op)
				}
			}
			symmetry.Compose(w, h)
		}
		symmetry.Inverse(w)
	}
}
