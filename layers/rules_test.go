package layers_test

import (
	"math"
	"slices"
	"testing"

	"raddle/api"
	"raddle/grid"
	"raddle/layers"
)

// invalid returns grids with the errors that grid.Check returns for them.
func invalid() map[api.Errno][]api.Grid {
	bits := func(n int) []bool { return make([]bool, n) }
	return map[api.Errno][]api.Grid{
		api.ErrMany: {
			{W: 65, H: 1, Bits: bits(65)}, {W: 1, H: 65, Bits: bits(65)}, {W: 65}, {W: -1, H: 65}, {W: 65, H: 65, Bits: bits(65 * 65)},
			{W: math.MaxInt, H: math.MinInt}, {W: math.MinInt, H: math.MaxInt}, {W: math.MaxInt, H: math.MaxInt},
		},
		api.ErrBad: {
			{}, {W: 1}, {H: 1, Bits: bits(1)}, {W: 1, H: 1}, {W: -1, H: -1, Bits: bits(1)}, {W: 2, H: 3}, {W: 2, H: 3, Bits: bits(5)},
			{W: 2, H: 3, Bits: bits(7)}, {W: math.MinInt, H: math.MinInt}, {W: 64, H: 64, Bits: bits(256)}, {W: 0, H: 64, Bits: bits(64)},
			{W: 2, H: 2, Bits: bits(3)},
		},
	}
}

// far returns numbers of all sizes.
func far() []int {
	return []int{math.MinInt, math.MinInt + 1, -1 << 32, -65, -64, -3, -2, -1, 0, 1, 2, 3, 4, 63, 64, 65, 127, 128, 129, 4096, 1 << 32, 1<<32 + 3, math.MaxInt - 1, math.MaxInt}
}

// noSets returns lists that are no sets of threads of a grid with n threads, of
// which there are at least two. Without the number that is wrong, some of them
// have ends and picks, and others do not.
func noSets(n int) [][]int {
	l := [][]int{
		{-1}, {n}, {n + 1}, {math.MinInt}, {math.MaxInt}, {0, 0}, {1, 0}, {1, 1}, {n - 1, 0}, {n - 1, n - 1}, {0, 1, 1}, {0, 1, 0}, {0, 0, 1},
		{-1, 0}, {-1, 0, 1}, {0, n}, {0, 1, n}, {math.MinInt, 0}, {0, math.MaxInt}, {-2, -1}, {n, n + 1}, {1, n, 0}, {1, -1}, {n, 0}, {0, -1, 1},
		{0, n - 1, n - 1}, {0, 0, n - 1}, {0, n - 1, 0}, {-1, 0, n - 1}, {0, n - 1, n}, make([]int, n), make([]int, 4096), make([]int, 1<<16),
	}
	down := upTo(0, n-1)
	slices.Reverse(down)
	more := upTo(0, n-1)
	return append(l, down, append(more, n), append(slices.Clone(more), n-1), append([]int{-1}, more...), append([]int{0}, more...))
}

// wantErrors checks that all functions return an error for a grid, and no other
// result.
func wantErrors(t *testing.T, g api.Grid, a, b int, list []int, want api.Errno) {
	t.Helper()
	if parts, e := layers.Parts(g); len(parts) > 0 || e != want {
		t.Errorf("Parts of %d by %d: %v, %d, want %d", g.W, g.H, parts, e, want)
	}
	if is, e := layers.Held(g, a, b); is || e != want {
		t.Errorf("Held(%d, %d) of %d by %d: %v, %d, want %d", a, b, g.W, g.H, is, e, want)
	}
	if only, e := layers.Only(g, list); !grid.Same(only, api.Grid{}) || e != want {
		t.Errorf("Only(%.50v) of %d by %d: %v, %d, want %d", list, g.W, g.H, only, e, want)
	}
	if l, e := layers.Layers(g); len(l) > 0 || e != want {
		t.Errorf("Layers of %d by %d: %v, %d, want %d", g.W, g.H, l, e, want)
	}
	if top, bottom, e := layers.Split(g, a); len(top) > 0 || len(bottom) > 0 || e != want {
		t.Errorf("Split(%d) of %d by %d: %v and %v, %d, want %d", a, g.W, g.H, top, bottom, e, want)
	}
}

// R1: the error of a grid comes first, with no other result, whatever the other
// arguments are.
func TestErrorsOfGrids(t *testing.T) {
	for want, l := range invalid() {
		for _, g := range l {
			for _, list := range [][]int{nil, {0}, {0, 1}, {-1}, {1, 0}, {math.MaxInt}, {0, 2}, {0, 1, 2, 3}, make([]int, 129)} {
				wantErrors(t, g, 0, 0, list, want)
				wantErrors(t, g, -1, 0, list, want)
				wantErrors(t, g, 1, math.MaxInt, list, want)
				wantErrors(t, g, math.MaxInt, 0, list, want)
			}
		}
	}
}

// R1: numbers that are no threads' numbers, first or second, and numbers of
// parts that there are not, for grids of many sizes.
func TestErrorsOfNumbers(t *testing.T) {
	for _, s := range [][2]int{{1, 1}, {1, 64}, {64, 1}, {2, 3}, {6, 6}, {64, 64}} {
		g := random(s[0], s[1], 4)
		held, parts := isHeld(g), partsOf(g)
		numbers := append(far(), s[0], s[1], s[0]+s[1]-1, s[0]+s[1], s[0]*s[1], len(parts), len(parts)+1)
		for _, a := range numbers {
			for _, b := range numbers {
				isFine := a >= 0 && b >= 0 && a < s[0]+s[1] && b < s[0]+s[1]
				is, e := layers.Held(g, a, b)
				if isFine && (e != api.OK || is != held[a][b]) || !isFine && (e != api.ErrArg || is) {
					t.Errorf("Held(%d, %d) of %d by %d: %v, %d", a, b, s[0], s[1], is, e)
				}
			}
			if a < 0 || a > len(parts) {
				wantNoSplit(t, g, a, api.ErrArg)
			} else if top, bottom, e := layers.Split(g, a); len(top)+len(bottom) != s[0]+s[1] || e != api.OK {
				t.Errorf("Split(%d) of %d by %d: %v and %v, %d", a, s[0], s[1], top, bottom, e)
			}
		}
	}
}

// R1: lists that are no sets of threads are ErrArg, whether or not ends and
// picks are among them.
func TestErrorsOfSets(t *testing.T) {
	for _, g := range append(samples(), small(6)...) {
		for _, list := range noSets(g.W + g.H) {
			wantNoCloth(t, g, list, api.ErrArg)
		}
	}
}

// R1: all lists of up to four numbers are sets with ends and picks, sets
// without, or no sets.
func TestErrorsOfShortLists(t *testing.T) {
	g := read(t, ".x.\n.x.\n")
	all := sets(5)
	isSet := func(list []int) bool {
		return slices.ContainsFunc(all, func(set []int) bool { return slices.Equal(set, list) })
	}
	for v := range 7 * 7 * 7 * 7 {
		list := []int{v%7 - 1, v/7%7 - 1, v/49%7 - 1, v/343 - 1}
		for n := range 5 {
			set := list[:n]
			if !isSet(set) {
				wantNoCloth(t, g, set, api.ErrArg)
			} else if want := onlyOf(g, set); want.W == 0 || want.H == 0 {
				wantNoCloth(t, g, set, api.ErrShort)
			} else {
				wantOnly(t, g, set, want)
			}
		}
	}
}

// spare returns a copy of a slice whose memory goes on behind its elements.
func spare[T any](l []T, more ...T) []T {
	return append(slices.Clone(l), slices.Repeat(more, 70)...)[:len(l)]
}

// memory returns a copy of all memory of a slice.
func memory[T any](l []T) []T { return slices.Clone(l[:cap(l)]) }

// R2: the arguments stay as they are, with the memory behind them.
func TestArgumentsStay(t *testing.T) {
	grids := append(samples(), small(6)...)
	for _, l := range invalid() {
		grids = append(grids, l...)
	}
	for _, g := range grids {
		given := api.Grid{W: g.W, H: g.H, Bits: spare(g.Bits, true, false)}
		was := memory(given.Bits)
		layers.Parts(given)
		layers.Layers(given)
		lists := noSets(max(g.W%65+g.H%65, 2))
		if grid.Check(g) == api.OK {
			lists = append(lists, someSets(g)...)
		}
		for _, list := range lists {
			list = spare(list, 1, 2, 0)
			wasList := memory(list)
			layers.Only(given, list)
			if !slices.Equal(memory(list), wasList) {
				t.Fatalf("the argument %v was changed, for%s", list, show(g))
			}
		}
		for a := -1; a < 5; a++ {
			layers.Held(given, a, g.W)
			layers.Split(given, a)
		}
		if !slices.Equal(memory(given.Bits), was) {
			t.Fatalf("the argument %s was changed", show(g))
		}
	}
}

// spoil gives all memory of a list other numbers.
func spoil(l []int) {
	l = l[:cap(l)]
	for i := range l {
		l[i] = -1 - l[i]
	}
}

// R2: a result can be changed without effect on arguments, other results or
// later calls, and its lists do not share memory with each other.
func TestResultsAreNewMemory(t *testing.T) {
	for _, g := range append(samples(), small(9)...) {
		given := api.Grid{W: g.W, H: g.H, Bits: slices.Clone(g.Bits)}
		want := partsOf(g)
		parts, _ := layers.Parts(given)
		others, _ := layers.Parts(given)
		for i := range parts {
			spoil(parts[i])
			if !sameParts(others, want) || !sameParts(parts[i+1:], want[i+1:]) {
				t.Fatalf("two parts share their memory, for%s", show(g))
			}
		}
		wantParts(t, given, want...)
		wantLayersOfTheirOwn(t, given, layersOf(g, want))
		for n := range min(len(want), 9) + 1 {
			top, bottom, _ := layers.Split(given, n)
			otherTop, otherBottom, _ := layers.Split(given, n)
			kept := slices.Clone(bottom)
			spoil(top)
			if !slices.Equal(bottom, kept) {
				t.Fatalf("the results of Split(%d) share their memory, for%s", n, show(g))
			}
			spoil(bottom)
			wantSplit(t, given, n, otherTop, otherBottom)
		}
		if !grid.Same(given, g) {
			t.Fatalf("the argument was changed, for%s", show(g))
		}
	}
}

// wantLayersOfTheirOwn checks that no two lists of the layers of a cloth, and
// of those of another call, share their memory.
func wantLayersOfTheirOwn(t *testing.T, g api.Grid, want []api.Layer) {
	t.Helper()
	l, _ := layers.Layers(g)
	others, _ := layers.Layers(g)
	for i := range l {
		spoil(l[i].Ends)
		if !slices.Equal(l[i].Picks, want[i].Picks) {
			t.Fatalf("the ends and picks of a layer share their memory, for%s", show(g))
		}
		spoil(l[i].Picks)
		if !sameLayers(others, want) || !sameLayers(l[i+1:], want[i+1:]) {
			t.Fatalf("two layers share their memory, for%s", show(g))
		}
	}
	wantLayers(t, g, want...)
}

// R2: the cloth of some threads, and of all, shares no memory with the cloth.
func TestClothsAreNewMemory(t *testing.T) {
	for _, g := range append(samples(), small(9)...) {
		given := api.Grid{W: g.W, H: g.H, Bits: slices.Clone(g.Bits)}
		for _, set := range append(someSets(g), upTo(0, g.W+g.H-1)) {
			only, e := layers.Only(given, set)
			if e != api.OK {
				continue
			}
			kept := slices.Clone(only.Bits)
			for i, isUp := range only.Bits {
				only.Bits[i] = !isUp
			}
			if !grid.Same(given, g) {
				t.Fatalf("the cloth of %v shares its memory, for%s", set, show(g))
			}
			wantOnly(t, given, set, api.Grid{W: only.W, H: only.H, Bits: kept})
		}
	}
}

// R2: a call that returns an error has no effect on the ones after it.
func TestNothingIsKept(t *testing.T) {
	for want, l := range invalid() {
		for _, g := range l {
			wantErrors(t, g, 0, 1, []int{0, 1}, want)
			fine := read(t, ".x\nx.\n")
			wantErrors(t, g, 0, 1, nil, want)
			layers.Held(fine, 0, 4)
			layers.Only(fine, []int{1, 0})
			layers.Only(fine, []int{0, 1})
			layers.Split(fine, 2)
			TestExamples(t)
			wantSplit(t, fine, 1, upTo(0, 3), nil)
		}
	}
}

// R3: nil and empty lists are alike.
func TestNilAndEmptyLists(t *testing.T) {
	for _, g := range append(samples(), small(6)...) {
		for _, list := range [][]int{nil, {}, make([]int, 0, 9)} {
			wantNoCloth(t, g, list, api.ErrShort)
		}
	}
}

// R7: no call panics, and all of them end, whatever their arguments are.
func TestNoPanic(t *testing.T) {
	for _, w := range far() {
		for _, h := range far() {
			for _, n := range []int{0, 1, 2, 4, 63, 64, 128, 4096} {
				g := api.Grid{W: w, H: h, Bits: make([]bool, n)}
				layers.Parts(g)
				layers.Layers(g)
				layers.Held(g, w, h)
				layers.Held(g, h, n)
				layers.Only(g, []int{w, h, n})
				layers.Split(g, w)
				layers.Split(g, h)
			}
		}
	}
	g := random(64, 64, 4)
	for _, a := range far() {
		for _, b := range far() {
			layers.Held(g, a, b)
			layers.Only(g, []int{a, b})
			layers.Only(g, slices.Repeat([]int{a, b}, 10000))
		}
		layers.Split(g, a)
	}
	layers.Only(g, make([]int, 1<<20))
}
