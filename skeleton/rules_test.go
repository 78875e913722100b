package skeleton_test

import (
	"math"
	"slices"
	"testing"

	"raddle/api"
	"raddle/grid"
	"raddle/skeleton"
)

// wantNoPlan checks that a plan is an error, with no other result.
func wantNoPlan(t *testing.T, g api.Grid, feet int, want api.Errno) {
	t.Helper()
	tie, press, e := skeleton.Plan(g, feet)
	if !grid.Same(tie, api.Grid{}) || press != nil || e != want {
		t.Errorf("Plan of %d by %d with %d feet: %v, %v, %d, want %d", g.W, g.H, feet, tie, press, e, want)
	}
}

// outside returns numbers that are neither numbers of shafts nor of feet.
func outside() []int { return []int{math.MinInt, -4, -1, 0, 5, 6, 64, math.MaxInt} }

// noTieUps returns lists that are no tie-ups of two shafts.
func noTieUps() [][]int {
	return [][]int{
		{0}, {0, 1}, {-1}, {math.MinInt}, {1, 0}, {1, 1}, {2, 1}, {1, 3, 2}, {1, 2, 3, 3}, {3, 3},
		{4}, {1, 4}, {1, 2, 3, 4}, {15}, {16}, {math.MaxInt}, {1, math.MaxInt}, {math.MaxInt, 1}, {1, math.MinInt},
	}
}

// noLifts returns numbers that are no sets of two shafts.
func noLifts() []int { return []int{math.MinInt, -3, -1, 4, 5, 15, 16, 17, 64, math.MaxInt} }

// R1
func TestErrorsOfTieUps(t *testing.T) {
	try := func(tie []int, shafts int, lift, feet int, want api.Errno) {
		t.Helper()
		if p, e := skeleton.Press(tie, shafts, lift, feet); p != nil || e != want {
			t.Errorf("Press(%v, %d, %d, %d): %v, %d, want %d", tie, shafts, lift, feet, p, e, want)
		}
		for _, lifts := range [][]int{{lift}, {0, lift}, {lift, 3}, {1, 2, lift, 1}} {
			if is, e := skeleton.Covers(tie, shafts, lifts, feet); is || e != want {
				t.Errorf("Covers(%v, %d, %v, %d): %v, %d, want %d", tie, shafts, lifts, feet, is, e, want)
			}
		}
	}
	valid := []int{1, 2}
	for _, n := range outside() {
		// The number of shafts comes first, whatever else is wrong.
		try(valid, n, 3, 2, api.ErrArg)
		for _, tie := range noTieUps() {
			try(tie, n, 3, 2, api.ErrArg)
			try(tie, n, 4, n, api.ErrArg)
			// A tie-up comes before the feet.
			try(tie, 2, 3, n, api.ErrBad)
			try(tie, 2, -1, n, api.ErrBad)
		}
		// The feet come before what has no pressing.
		try(valid, 2, 3, n, api.ErrArg)
		try(nil, 2, 3, n, api.ErrArg)
		try(nil, 2, 0, n, api.ErrArg)
	}
	for _, lift := range noLifts() {
		try(valid, 2, lift, 2, api.ErrArg)
		try(nil, 2, lift, 1, api.ErrArg)
		for _, tie := range noTieUps() {
			try(tie, 2, lift, 2, api.ErrBad)
		}
	}
	for shafts := 1; shafts <= api.MaxSkeleton; shafts++ {
		try(nil, shafts, 1<<shafts, 1, api.ErrArg)
		try([]int{1}, shafts, -1, 4, api.ErrArg)
	}
}

// R1
func TestErrorsOfFeetWithoutLifts(t *testing.T) {
	for _, n := range outside() {
		if is, e := skeleton.Covers(nil, 1, nil, n); is || e != api.ErrArg {
			t.Errorf("Covers of no lifts with %d feet: %v, %d", n, is, e)
		}
		if l, e := skeleton.Least(4, nil, n); l != nil || e != api.ErrArg {
			t.Errorf("Least of no lifts with %d feet: %v, %d", n, l, e)
		}
		if l, e := skeleton.Least(n, nil, 1); l != nil || e != api.ErrArg {
			t.Errorf("Least of no lifts of %d shafts: %v, %d", n, l, e)
		}
	}
}

// R1
func TestErrorsOfLeast(t *testing.T) {
	try := func(shafts int, lifts []int, feet int) {
		t.Helper()
		if l, e := skeleton.Least(shafts, lifts, feet); l != nil || e != api.ErrArg {
			t.Errorf("Least(%d, %v, %d): %v, %d, want %d", shafts, lifts, feet, l, e, api.ErrArg)
		}
	}
	for _, n := range outside() {
		try(n, []int{1}, 1)
		try(2, []int{1}, n)
		try(n, []int{1}, n)
	}
	for _, lift := range noLifts() {
		try(2, []int{lift}, 1)
		try(2, []int{0, 1, lift}, 2)
		try(2, []int{lift, 1, 2, 3}, 4)
	}
	for shafts := 1; shafts <= api.MaxSkeleton; shafts++ {
		try(shafts, []int{1 << shafts}, 1)
		try(shafts, span(0, 1<<shafts), 4)
		try(shafts, span(-1, 1), 4)
	}
}

// R1: the error of a grid comes before that of its columns, that before the
// feet, and these before rows that are all empty.
func TestErrorsOfGrids(t *testing.T) {
	bits := func(n int) []bool { return make([]bool, n) }
	for want, grids := range map[api.Errno][]api.Grid{
		api.ErrMany: {
			{W: 65, H: 1, Bits: bits(65)}, {W: 1, H: 65, Bits: bits(65)}, {W: 65}, {W: -1, H: 65},
			{W: math.MaxInt, H: math.MinInt}, {W: math.MinInt, H: math.MaxInt},
			{W: 5, H: 1, Bits: bits(5)}, {W: 5, H: 64, Bits: bits(320)}, {W: 64, H: 64, Bits: bits(4096)},
		},
		api.ErrBad: {
			{}, {W: 1}, {H: 1, Bits: bits(1)}, {W: -1, H: -1, Bits: bits(1)}, {W: 2, H: 3}, {W: 2, H: 3, Bits: bits(5)},
			{W: 2, H: 3, Bits: bits(7)}, {W: math.MinInt, H: math.MinInt}, {W: 4, H: 64, Bits: bits(255)},
			{W: 5, H: 1, Bits: bits(4)}, {W: 64, H: 64, Bits: bits(4095)}, {W: 5}, {W: 5, H: -1},
		},
	} {
		for _, g := range grids {
			if l, e := skeleton.Lifts(g); l != nil || e != want {
				t.Errorf("Lifts of %d by %d: %v, %d, want %d", g.W, g.H, l, e, want)
			}
			for _, feet := range append(outside(), 1, 2, 3, 4) {
				wantNoPlan(t, g, feet, want)
			}
		}
	}
	for _, feet := range outside() {
		wantNoPlan(t, ofRows(2, []int{1, 2, 3}), feet, api.ErrArg)
		wantNoPlan(t, ofRows(4, []int{0, 0}), feet, api.ErrArg)
	}
}

// spare returns a copy of a list whose memory goes on behind it.
func spare(l []int) []int {
	return append(slices.Clone(l), slices.Repeat([]int{1}, 90)...)[:len(l)]
}

// spareGrid returns a copy of a grid whose memory goes on behind its cells.
func spareGrid(g api.Grid) api.Grid {
	g.Bits = append(slices.Clone(g.Bits), slices.Repeat([]bool{true}, 90)...)[:len(g.Bits)]
	return g
}

// memory returns a copy of all memory of a list.
func memory[T any](l []T) []T { return slices.Clone(l[:cap(l)]) }

// spoil changes all memory of a list.
func spoil(l []int) {
	l = l[:cap(l)]
	for i := range l {
		l[i] = 99
	}
}

// R2: the arguments stay as they are, with the memory behind them.
func TestArgumentsStay(t *testing.T) {
	lists := append(noTieUps(), nil, []int{1}, []int{1, 2}, []int{3, 2, 1, 0, 3}, span(1, 15), span(0, 15), mixed(16, 64))
	for _, l := range lists {
		for _, feet := range []int{0, 1, 2, 4} {
			tie, lifts := spare(l), spare(l)
			was := memory(tie)
			skeleton.Check(tie, 4)
			skeleton.Press(tie, 4, 13, feet)
			skeleton.Covers(tie, 4, lifts, feet)
			skeleton.Covers([]int{1, 2, 4, 8}, 4, lifts, feet)
			skeleton.Covers(tie, 4, tie, feet)
			skeleton.Least(4, lifts, feet)
			if !slices.Equal(memory(tie), was) || !slices.Equal(memory(lifts), was) {
				t.Fatalf("the argument %v was changed", l)
			}
		}
	}
	for _, g := range append(grids(), api.Grid{}, api.Grid{W: 5, H: 1, Bits: make([]bool, 5)}, ofRows(3, []int{0, 0})) {
		g := spareGrid(g)
		was := memory(g.Bits)
		skeleton.Lifts(g)
		skeleton.Plan(g, 0)
		skeleton.Plan(g, 2)
		if !slices.Equal(memory(g.Bits), was) {
			t.Fatalf("the argument %s was changed", show(g))
		}
	}
}

// R2: a result can be changed without effect on arguments, or on later calls.
func TestResultsAreNewMemory(t *testing.T) {
	tie := span(1, 15)
	for feet := 1; feet <= api.MaxFeet; feet++ {
		for lift := range 16 {
			press, _ := skeleton.Press(tie, 4, lift, feet)
			kept := slices.Clone(press)
			spoil(press)
			wantPress(t, tie, 4, lift, feet, kept)
		}
		// With one foot, the least tie-up equals its lifts.
		least, _ := skeleton.Least(4, tie, feet)
		kept := slices.Clone(least)
		spoil(least)
		wantLeast(t, 4, tie, feet, kept)
		if !slices.Equal(tie, span(1, 15)) {
			t.Fatalf("the results share their memory with %v", tie)
		}
	}
	for _, g := range grids() {
		lifts, _ := skeleton.Lifts(g)
		kept := slices.Clone(lifts)
		spoil(lifts)
		if again, e := skeleton.Lifts(g); e != api.OK || !slices.Equal(again, kept) {
			t.Fatalf("Lifts again: %v, %d, want %v", again, e, kept)
		}
	}
}

// R2: the parts of a plan share no memory, those of rows that are the same,
// too.
func TestPartsOfPlansAreApart(t *testing.T) {
	for _, g := range grids() {
		tie, press, e := skeleton.Plan(g, 2)
		if e != api.OK {
			continue
		}
		keptTie := slices.Clone(tie.Bits)
		kept := make([][]int, len(press))
		for i, l := range press {
			kept[i] = slices.Clone(l)
		}
		for i, l := range press {
			if !slices.Equal(l, kept[i]) {
				t.Fatalf("the pressings of %s share their memory", show(g))
			}
			spoil(l)
		}
		if !slices.Equal(tie.Bits, keptTie) {
			t.Fatalf("the tie-up of %s shares its memory", show(g))
		}
		bits := tie.Bits[:cap(tie.Bits)]
		for i := range bits {
			bits[i] = !bits[i]
		}
		again, pressAgain, e := skeleton.Plan(g, 2)
		if e != api.OK || !slices.Equal(again.Bits, keptTie) || !slices.EqualFunc(pressAgain, kept, slices.Equal) {
			t.Fatalf("Plan again: %s, %v, %d", show(again), pressAgain, e)
		}
	}
}

// R3: nil and empty lists are the same.
func TestEmptyLists(t *testing.T) {
	for shafts := 1; shafts <= api.MaxSkeleton; shafts++ {
		for _, l := range [][]int{nil, {}} {
			if e := skeleton.Check(l, shafts); e != api.OK {
				t.Errorf("Check(%#v, %d): %d", l, shafts, e)
			}
			wantPress(t, l, shafts, 0, 1, nil)
			wantNoPress(t, l, shafts, 1, 1)
			wantCovers(t, l, shafts, l, 4, true)
			wantCovers(t, []int{1}, shafts, l, 4, true)
			wantLeast(t, shafts, l, 4, nil)
		}
	}
}

// R7: no call panics, whatever its arguments are.
func TestNoPanic(t *testing.T) {
	numbers := []int{math.MinInt, math.MinInt + 1, -1, 0, 1, 2, 3, 4, 5, 15, 16, 62, 63, 64, 65, math.MaxInt - 1, math.MaxInt}
	lists := append(noTieUps(), nil, noLifts(), span(0, 64), span(1, 15), []int{math.MinInt, math.MaxInt})
	for _, shafts := range numbers {
		for _, feet := range numbers {
			for _, l := range lists {
				skeleton.Check(l, shafts)
				for _, lift := range numbers {
					skeleton.Press(l, shafts, lift, feet)
				}
				skeleton.Covers(l, shafts, l, feet)
				skeleton.Least(shafts, l, feet)
			}
			for _, n := range []int{0, 1, 4, 5, 256, 4096} {
				g := api.Grid{W: shafts, H: feet, Bits: make([]bool, n)}
				skeleton.Lifts(g)
				for _, f := range []int{math.MinInt, 0, 1, 4, math.MaxInt} {
					skeleton.Plan(g, f)
				}
			}
		}
	}
}
