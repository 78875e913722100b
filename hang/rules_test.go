package hang_test

import (
	"math"
	"slices"
	"testing"

	"raddle/api"
	"raddle/grid"
	"raddle/hang"
)

// invalid returns grids with the errors that grid.Check returns for them.
func invalid() map[api.Errno][]api.Grid {
	bits := func(n int) []bool { return make([]bool, n) }
	return map[api.Errno][]api.Grid{
		api.ErrMany: {
			{W: 65, H: 1, Bits: bits(65)}, {W: 1, H: 65, Bits: bits(65)}, {W: 65}, {W: -1, H: 65}, {W: 65, H: 65, Bits: bits(65 * 65)},
			{W: math.MaxInt, H: math.MinInt}, {W: math.MinInt, H: math.MaxInt}, {W: math.MaxInt, H: math.MaxInt},
		},
		api.ErrBad: {
			{}, {W: 1}, {H: 1, Bits: bits(1)}, {W: 1, H: 1}, {W: -1, H: -1, Bits: bits(1)}, {W: 2, H: 3}, {W: 2, H: 3, Bits: bits(5)},
			{W: 2, H: 3, Bits: bits(7)}, {W: math.MinInt, H: math.MinInt}, {W: 64, H: 64, Bits: bits(256)}, {W: 0, H: 64, Bits: bits(64)},
			{W: 2, H: 2, Bits: bits(3)},
		},
	}
}

// far returns numbers of all sizes.
func far() []int {
	return []int{math.MinInt, math.MinInt + 1, -1 << 32, -65, -64, -3, -2, -1, 0, 1, 2, 3, 4, 63, 64, 65, 127, 128, 129, 4096, 1 << 32, 1<<32 + 3, math.MaxInt - 1, math.MaxInt}
}

// noSets returns lists that are no sets of threads of a grid with n threads, of
// which there are at least two.
func noSets(n int) [][]int {
	l := [][]int{
		{-1}, {n}, {n + 1}, {math.MinInt}, {math.MaxInt}, {0, 0}, {1, 0}, {1, 1}, {n - 1, 0}, {n - 1, n - 1}, {0, 1, 1}, {0, 1, 0}, {0, 0, 1},
		{-1, 0}, {-1, 0, 1}, {0, n}, {0, 1, n}, {math.MinInt, 0}, {0, math.MaxInt}, {-2, -1}, {n, n + 1}, {1, n, 0}, {1, -1}, {n, 0}, {0, -1, 1},
		make([]int, n), make([]int, 4096), make([]int, 1<<16),
	}
	var down, more []int
	for a := range n {
		down = append(down, n-1-a)
		more = append(more, a)
	}
	return append(l, down, append(more, n), append(slices.Clone(more), n-1), append([]int{-1}, more...), append([]int{0}, more...))
}

// wantErrors checks that all functions return an error for a grid, and no other
// result.
func wantErrors(t *testing.T, g api.Grid, a, b int, list []int, want api.Errno) {
	t.Helper()
	if is, e := hang.Over(g, a, b); is || e != want {
		t.Errorf("Over(%d, %d) of %d by %d: %v, %d, want %d", a, b, g.W, g.H, is, e, want)
	}
	if is, e := hang.Off(g, list); is || e != want {
		t.Errorf("Off(%.50v) of %d by %d: %v, %d, want %d", list, g.W, g.H, is, e, want)
	}
	if is, e := hang.Hangs(g); is || e != want {
		t.Errorf("Hangs of %d by %d: %v, %d, want %d", g.W, g.H, is, e, want)
	}
	if set, e := hang.Apart(g); len(set) > 0 || e != want {
		t.Errorf("Apart of %d by %d: %v, %d, want %d", g.W, g.H, set, e, want)
	}
	if walk, e := hang.Walk(g); len(walk) > 0 || e != want {
		t.Errorf("Walk of %d by %d: %v, %d, want %d", g.W, g.H, walk, e, want)
	}
	if is, e := hang.Accept(g, list); is || e != want {
		t.Errorf("Accept of %d numbers for %d by %d: %v, %d, want %d", len(list), g.W, g.H, is, e, want)
	}
}

// R1: the error of a grid comes first, with no other result, whatever the other
// arguments are.
func TestErrorsOfGrids(t *testing.T) {
	for want, l := range invalid() {
		for _, g := range l {
			for _, list := range [][]int{nil, {0}, {0, 1}, {-1}, {1, 0}, {math.MaxInt}, {0, 2, 1, 3, 0}, make([]int, 20000), make([]int, 20001)} {
				wantErrors(t, g, 0, 0, list, want)
				wantErrors(t, g, -1, 0, list, want)
				wantErrors(t, g, 0, math.MaxInt, list, want)
			}
		}
	}
}

// R1: numbers that are no threads' numbers, first or second, of grids of many
// sizes.
func TestErrorsOfThreads(t *testing.T) {
	for _, s := range [][2]int{{1, 1}, {1, 64}, {64, 1}, {2, 3}, {64, 64}} {
		g := random(s[0], s[1], 4)
		for _, a := range append(far(), s[0], s[1], s[0]+s[1]-1, s[0]+s[1], s[0]*s[1]) {
			for _, b := range append(far(), s[0], s[1], s[0]+s[1]-1, s[0]+s[1], s[0]*s[1]) {
				isFine := a >= 0 && b >= 0 && a < s[0]+s[1] && b < s[0]+s[1]
				is, e := hang.Over(g, a, b)
				if isFine && (e != api.OK || is != liesOver(g, a, b)) || !isFine && (e != api.ErrArg || is) {
					t.Errorf("Over(%d, %d) of %d by %d: %v, %d", a, b, s[0], s[1], is, e)
				}
			}
		}
	}
}

// R1: lists that are no sets of threads.
func TestErrorsOfSets(t *testing.T) {
	for _, g := range append(samples(), small(6)...) {
		for _, list := range noSets(g.W + g.H) {
			if is, e := hang.Off(g, list); is || e != api.ErrArg {
				t.Fatalf("Off(%.100v): %v, %d, for%s", list, is, e, show(g))
			}
		}
	}
}

// R1: all lists of up to four numbers are sets of threads or ErrArg.
func TestErrorsOfShortLists(t *testing.T) {
	g := read(t, ".x.\n.x.\n")
	all := sets(5)
	isSet := func(list []int) bool {
		return slices.ContainsFunc(all, func(set []int) bool { return slices.Equal(set, list) })
	}
	for v := range 7 * 7 * 7 * 7 {
		list := []int{v%7 - 1, v/7%7 - 1, v/49%7 - 1, v/343 - 1}
		for n := range 5 {
			is, e := hang.Off(g, list[:n])
			if fine := isSet(list[:n]); fine && (e != api.OK || is != isOff(g, list[:n])) || !fine && (e != api.ErrArg || is) {
				t.Fatalf("Off(%v): %v, %d", list[:n], is, e)
			}
		}
	}
}

// spare returns a copy of a slice whose memory goes on behind its elements.
func spare[T any](l []T, more ...T) []T {
	return append(slices.Clone(l), slices.Repeat(more, 70)...)[:len(l)]
}

// memory returns a copy of all memory of a slice.
func memory[T any](l []T) []T { return slices.Clone(l[:cap(l)]) }

// lists returns lists that a function may be asked about.
func lists(g api.Grid) [][]int {
	l := noSets(max(g.W+g.H, 2) % 200)
	l = append(l, []int{}, []int{0}, []int{1}, []int{0, 1}, []int{0, g.W, 0})
	set, _ := hang.Apart(g)
	walk, _ := hang.Walk(g)
	return append(l, set, walk)
}

// R2: the arguments stay as they are, with the memory behind them.
func TestArgumentsStay(t *testing.T) {
	grids := append(samples(), small(6)...)
	for _, l := range invalid() {
		grids = append(grids, l...)
	}
	for _, g := range grids {
		given := api.Grid{W: g.W, H: g.H, Bits: spare(g.Bits, true, false)}
		was := memory(given.Bits)
		hang.Hangs(given)
		hang.Apart(given)
		hang.Walk(given)
		for _, list := range lists(g) {
			list = spare(list, 1, 2, 0)
			wasList := memory(list)
			hang.Off(given, list)
			hang.Accept(given, list)
			if !slices.Equal(memory(list), wasList) {
				t.Fatalf("the argument %v was changed, for%s", list, show(g))
			}
		}
		for a := range 5 {
			hang.Over(given, a, g.W)
		}
		if !slices.Equal(memory(given.Bits), was) {
			t.Fatalf("the argument %s was changed", show(g))
		}
	}
}

// spoil gives all memory of a list other numbers.
func spoil(l []int) {
	l = l[:cap(l)]
	for i := range l {
		l[i] = -1 - l[i]
	}
}

// R2: a result can be changed without effect on arguments, other results or
// later calls.
func TestResultsAreNewMemory(t *testing.T) {
	for _, g := range append(samples(), small(9)...) {
		given := api.Grid{W: g.W, H: g.H, Bits: slices.Clone(g.Bits)}
		for _, f := range []func(api.Grid) ([]int, api.Errno){hang.Apart, hang.Walk} {
			first, e := f(given)
			second, _ := f(given)
			kept := slices.Clone(first)
			spoil(first)
			if !slices.Equal(second, kept) {
				t.Fatalf("two results share their memory, for%s", show(g))
			}
			third, k := f(given)
			if !slices.Equal(third, kept) || e != k || !grid.Same(given, g) {
				t.Fatalf("a result changed from %v to %v, for%s", kept, third, show(g))
			}
		}
	}
}

// R2: a call that returns an error has no effect on the ones after it.
func TestNothingIsKept(t *testing.T) {
	for want, l := range invalid() {
		for _, g := range l {
			wantErrors(t, g, 0, 1, []int{0}, want)
			fine := read(t, ".x\nx.\n")
			hang.Over(fine, 0, 4)
			hang.Off(fine, []int{1, 0})
			hang.Accept(fine, make([]int, 20001))
			hang.Walk(read(t, "x.\n"))
			TestExamples(t)
			wantOver(t, fine, 0, 2, true)
		}
	}
}

// R3: nil and empty lists are alike.
func TestNilAndEmptyLists(t *testing.T) {
	for _, g := range append(samples(), small(6)...) {
		for _, list := range [][]int{nil, {}, make([]int, 0, 9)} {
			wantOff(t, g, list, false)
			wantAccept(t, g, list, false)
		}
	}
}

// R7: no call panics, and all of them end, whatever their arguments are.
func TestNoPanic(t *testing.T) {
	for _, w := range far() {
		for _, h := range far() {
			for _, n := range []int{0, 1, 2, 4, 63, 64, 128, 4096} {
				g := api.Grid{W: w, H: h, Bits: make([]bool, n)}
				hang.Hangs(g)
				hang.Apart(g)
				hang.Walk(g)
				hang.Over(g, w, h)
				hang.Over(g, h, n)
				hang.Off(g, []int{w, h, n})
				hang.Accept(g, []int{w, h, n, w})
			}
		}
	}
	g := random(64, 64, 4)
	for _, a := range far() {
		for _, b := range far() {
			hang.Over(g, a, b)
			hang.Off(g, []int{a, b})
			hang.Accept(g, []int{a, b, a})
			hang.Accept(g, slices.Repeat([]int{a, b}, 10000))
		}
	}
	hang.Off(g, make([]int, 1<<20))
	hang.Accept(g, make([]int, 1<<20))
}
