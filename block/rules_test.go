package block_test

import (
	"cmp"
	"math"
	"slices"
	"testing"

	"raddle/api"
	"raddle/block"
	"raddle/grid"
	"raddle/thread"
)

// invalid returns grids with the errors that grid.Check returns for them.
func invalid() map[api.Errno][]api.Grid {
	bits := func(n int) []bool { return make([]bool, n) }
	return map[api.Errno][]api.Grid{
		api.ErrMany: {
			{W: 65, H: 1, Bits: bits(65)}, {W: 1, H: 65, Bits: bits(65)}, {W: 65}, {W: -1, H: 65}, {W: 65, H: 65, Bits: bits(65 * 65)},
			{W: math.MaxInt, H: math.MinInt}, {W: math.MinInt, H: math.MaxInt}, {W: math.MaxInt, H: math.MaxInt},
		},
		api.ErrBad: {
			{}, {W: 1}, {H: 1, Bits: bits(1)}, {W: 1, H: 1}, {W: -1, H: -1, Bits: bits(1)}, {W: 2, H: 3}, {W: 2, H: 3, Bits: bits(5)},
			{W: 2, H: 3, Bits: bits(7)}, {W: math.MinInt, H: math.MinInt}, {W: 64, H: 64, Bits: bits(256)}, {W: 0, H: 64, Bits: bits(64)},
			{W: 0, H: 2, Bits: []bool{}}, {W: -2, H: 2, Bits: bits(4)},
		},
	}
}

// allInvalid returns grids of which each one is not valid.
func allInvalid() []api.Grid {
	l := invalid()
	return slices.Concat(l[api.ErrMany], l[api.ErrBad])
}

// wrong returns lists with the errors that thread.Check returns for them.
func wrong() map[api.Errno][][]int {
	return map[api.Errno][][]int{
		api.ErrMany: {make([]int, 401), make([]int, 500), slices.Repeat([]int{-1}, 401), slices.Repeat([]int{400}, 1000)},
		api.ErrBad:  {{-1}, {400}, {0, 400}, {-1, 0}, {0, 1, math.MinInt}, {math.MaxInt, 0, 1}, slices.Repeat([]int{400}, 400), append(make([]int, 399), -1)},
	}
}

// allWrong returns lists of which each one is not valid.
func allWrong() [][]int {
	l := wrong()
	return slices.Concat(l[api.ErrMany], l[api.ErrBad])
}

// R1: the error of the first, the second or the third grid comes before those of
// sides that do not fit or are too great, and of units that are equal.
func TestErrorsOfEachGrid(t *testing.T) {
	grids := []api.Grid{plain(1, 1), plain(2, 3), plain(3, 2), plain(64, 64), plain(33, 1), blank(2, 2, true)}
	for want, l := range invalid() {
		for _, g := range l {
			for _, p := range grids {
				for _, q := range grids {
					for _, f := range []filling{{g, p, q}, {p, g, q}, {p, q, g}} {
						wantNoFill(t, f, want)
						wantNoProfile(t, f.profile, f.pattern, f.ground, want)
					}
				}
			}
		}
	}
}

// R1: of several grids that are not valid, the first one's error is returned.
func TestErrorsOfSeveralGrids(t *testing.T) {
	differ := 0
	for _, a := range append(allInvalid(), plain(2, 3), plain(64, 64)) {
		for _, b := range append(allInvalid(), plain(2, 3), plain(1, 1)) {
			for _, c := range append(allInvalid(), plain(2, 3), plain(2, 2)) {
				want := cmp.Or(grid.Check(a), grid.Check(b), grid.Check(c))
				if want == api.OK {
					continue
				}
				wantNoFill(t, filling{a, b, c}, want)
				wantNoProfile(t, a, b, c, want)
				wantNoJoin(t, []api.Grid{a, b, c}, []int{0, 1, 2}, 3, want)
				if grid.Check(a)+grid.Check(b)+grid.Check(c) != 3*want {
					differ++
				}
			}
		}
	}
	if differ < 100 {
		t.Errorf("in only %d cases the errors differ", differ)
	}
}

// R1: for Fill, sizes that differ come before sides that are too great; for
// Profile, sides that do not fit come before units that are equal, and these
// before a grid that is made of neither.
func TestOrderOfErrorsOfFillings(t *testing.T) {
	wantNoFill(t, filling{plain(64, 64), plain(2, 2), plain(2, 1)}, api.ErrCount)
	wantNoFill(t, filling{plain(64, 64), plain(64, 64), plain(64, 1)}, api.ErrCount)
	wantNoFill(t, filling{plain(64, 64), plain(2, 2), plain(2, 2)}, api.ErrMany)
	wantNoFill(t, filling{plain(1, 64), plain(64, 2), plain(64, 2)}, api.ErrMany)
	wantNoFill(t, filling{plain(64, 1), plain(2, 64), plain(2, 64)}, api.ErrMany)
	wantNoProfile(t, plain(4, 3), plain(2, 2), plain(2, 2), api.ErrCount)
	wantNoProfile(t, plain(3, 4), plain(2, 2), plain(2, 2), api.ErrCount)
	wantNoProfile(t, plain(1, 1), plain(2, 2), plain(2, 2), api.ErrCount)
	wantNoProfile(t, plain(5, 5), plain(2, 2), blank(2, 2, true), api.ErrCount)
	wantNoProfile(t, plain(4, 4), blank(2, 2, true), blank(2, 2, true), api.ErrTwice)
	wantNoProfile(t, plain(4, 4), blank(2, 2, true), blank(2, 2, false), api.ErrNone)
	wantNoProfile(t, plain(4, 4), blank(2, 2, true), blank(2, 1, true), api.ErrCount)
	wantNoProfile(t, plain(4, 4), blank(2, 2, true), blank(1, 2, true), api.ErrCount)
}

// R1: a grid's error comes before that of a size.
func TestErrorsOfUnits(t *testing.T) {
	for want, l := range invalid() {
		for _, g := range l {
			for _, s := range [][2]int{{1, 1}, {g.W, g.H}, {0, 0}, {-1, 1}, {1, -1}, {64, 64}, {65, 1}} {
				wantNoUnits(t, g, s[0], s[1], want)
			}
		}
	}
}

// R1: no unit, then a unit among many that is not valid, then what does not fit,
// then places that are no index, then sides that are too great.
func TestErrorsOfJoin(t *testing.T) {
	p, q := plain(2, 3), plain(3, 2)
	places := [][]int{nil, {}, {0}, {0, 1, 0}, {-1}, {9, 9}, make([]int, 400)}
	for _, at := range places {
		for _, w := range []int{math.MinInt, -1, 0, 1, 2, 3, 65, math.MaxInt} {
			wantNoJoin(t, nil, at, w, api.ErrNone)
			wantNoJoin(t, []api.Grid{}, at, w, api.ErrNone)
			for want, l := range invalid() {
				for _, g := range l {
					for _, units := range [][]api.Grid{{g}, {g, p}, {p, g}, {p, g, q}, {p, q, p, p, g}, {g, g}} {
						wantNoJoin(t, units, at, w, want)
					}
				}
			}
			for _, units := range [][]api.Grid{{p, q}, {p, p, q}, {p, plain(2, 2)}, {p, plain(1, 3)}, {p, q, p}, {plain(64, 64), plain(64, 63)}} {
				wantNoJoin(t, units, at, w, api.ErrCount)
			}
			if w < 1 || len(at)%w != 0 || len(at) == 0 {
				wantNoJoin(t, []api.Grid{p}, at, w, api.ErrCount)
				wantNoJoin(t, []api.Grid{p, p}, at, w, api.ErrCount)
			}
		}
	}
	two := []api.Grid{p, plain(2, 3)}
	for _, at := range [][]int{{0, 2}, {2, 0}, {-1, 0}, {0, -1}, {0, math.MaxInt}, {math.MinInt, 1}, {1, 1 << 32}} {
		wantNoJoin(t, two, at, 1, api.ErrBad)
		wantNoJoin(t, two, at, 2, api.ErrBad)
		wantNoJoin(t, two, at, 3, api.ErrCount)
		wantNoJoin(t, []api.Grid{plain(64, 64), plain(64, 64)}, at, 1, api.ErrBad)
		wantNoJoin(t, []api.Grid{plain(64, 64), plain(64, 64)}, at, 2, api.ErrBad)
	}
	wantNoJoin(t, []api.Grid{p}, []int{1}, 1, api.ErrBad)
	wantNoJoin(t, two, []int{1}, 2, api.ErrCount)
	wantNoJoin(t, two, []int{1, 0, 1}, 2, api.ErrCount)
	wantNoJoin(t, two, []int{1, 0}, 4, api.ErrCount)
	wantNoJoin(t, two, append(make([]int, 65), 2), 1, api.ErrBad)
	wantNoJoin(t, two, make([]int, 66), 1, api.ErrMany)
	wantNoJoin(t, two, make([]int, 66), 66, api.ErrMany)
}

// wantNoneOfBoth checks that neither Spell nor Blocks has a result.
func wantNoneOfBoth(t *testing.T, l []int, units [][]int, want api.Errno) {
	t.Helper()
	wantNoSpell(t, l, units, want)
	wantNoBlocks(t, l, units, want)
}

// R1: the list's error, then the number of units, then the first unit that is
// not valid, then their lengths.
func TestErrorsOfLists(t *testing.T) {
	many := slices.Repeat([][]int{{0}}, 401)
	for want, l := range wrong() {
		for _, list := range l {
			for _, units := range append([][][]int{nil, {}, {{0}}, {{0}, {1, 2}}, {{}}, {{0}, {0}}, many, {list}, {{0}, list}, {{-1}}, {make([]int, 401)}}, threadings()[:20]...) {
				wantNoneOfBoth(t, list, units, want)
			}
		}
	}
	for _, l := range [][]int{nil, {}, {0}, {0, 1, 2}, {399}, make([]int, 400)} {
		for want, wrongs := range wrong() {
			for _, u := range wrongs {
				for _, units := range [][][]int{{u}, {u, {0}}, {{0}, u}, {{0}, {1, 2}, u}, {{}, u}, {{3}, {3}, u, {4}}, {u, u}} {
					wantNoneOfBoth(t, l, units, want)
				}
				wantNoneOfBoth(t, l, append(slices.Clone(many), u), api.ErrArg)
				wantNoneOfBoth(t, l, slices.Repeat([][]int{u}, 401), api.ErrArg)
			}
		}
		for _, units := range [][][]int{{{}}, {nil}, {{}, {}}, {{0}, {}}, {{}, {0}}, {{0}, {0, 1}}, {{0, 1}, {0}}, {{0, 1}, {0, 1}, {2}}, {{0}, {0}, nil}, {{0}, {1}, {2, 3}, {4}}} {
			wantNoneOfBoth(t, l, units, api.ErrCount)
		}
		wantNoneOfBoth(t, l, nil, api.ErrArg)
		wantNoneOfBoth(t, l, [][]int{}, api.ErrArg)
		wantNoneOfBoth(t, l, many, api.ErrArg)
		wantNoneOfBoth(t, l, slices.Repeat([][]int{nil}, 401), api.ErrArg)
	}
	for _, a := range allWrong() {
		for _, b := range allWrong() {
			wantNoneOfBoth(t, a, [][]int{b}, thread.Check(a))
			wantNoneOfBoth(t, []int{0}, [][]int{{1}, a, b}, thread.Check(a))
		}
	}
}

// R1: for Spell, blocks that are no index come before too many elements; for
// Blocks, units that are equal come before a length that does not fit, and this
// before a list that has no blocks.
func TestOrderOfErrorsOfLists(t *testing.T) {
	long := [][]int{slices.Repeat([]int{1}, 400), slices.Repeat([]int{2}, 400)}
	wantNoSpell(t, []int{0, 2}, long, api.ErrBad)
	wantNoSpell(t, []int{2, 0}, long, api.ErrBad)
	wantNoSpell(t, []int{0, 1}, long, api.ErrMany)
	wantNoSpell(t, []int{1}, [][]int{{0}}, api.ErrBad)
	wantNoSpell(t, []int{0, 0, 399}, [][]int{{0}, {1}}, api.ErrBad)
	wantNoBlocks(t, []int{0}, [][]int{{1, 2}, {1, 2}}, api.ErrTwice)
	wantNoBlocks(t, []int{0, 5}, [][]int{{1, 2}, {3, 4}, {1, 2}}, api.ErrTwice)
	wantNoBlocks(t, []int{1, 2}, [][]int{{1, 2}, {3, 4}, {3, 4}}, api.ErrTwice)
	wantNoBlocks(t, []int{0, 5, 6}, [][]int{{1, 2}, {3, 4}}, api.ErrCount)
	wantNoBlocks(t, []int{1, 2, 1}, [][]int{{1, 2}, {3, 4}}, api.ErrCount)
	wantNoBlocks(t, []int{1}, [][]int{{1, 2}}, api.ErrCount)
	wantNoBlocks(t, []int{1, 2, 1, 4}, [][]int{{1, 2}, {3, 4}}, api.ErrNone)
	wantNoBlocks(t, []int{3, 1, 2, 4}, [][]int{{1, 2}, {3, 4}}, api.ErrNone)
}

// spare returns a copy of a grid whose memory goes on behind its cells, all up
// or all down.
func spare(g api.Grid, isUp bool) api.Grid {
	n := len(g.Bits)
	return api.Grid{W: g.W, H: g.H, Bits: append(slices.Clone(g.Bits), slices.Repeat([]bool{isUp}, 140)...)[:n]}
}

// memory returns a copy of all memory of the cells of grids.
func memory(grids ...api.Grid) []bool {
	var l []bool
	for _, g := range grids {
		l = append(l, g.Bits[:cap(g.Bits)]...)
	}
	return l
}

// spareList returns a copy of a list whose memory goes on behind it.
func spareList(l []int, v int) []int {
	return append(slices.Clone(l), slices.Repeat([]int{v}, 40)...)[:len(l)]
}

// spareUnits returns a copy of units whose memory goes on behind each one, and
// behind the last one.
func spareUnits(units [][]int, v int) [][]int {
	var l [][]int
	for _, u := range units {
		l = append(l, spareList(u, v))
	}
	return append(l, []int{v}, []int{v})[:len(units)]
}

// numbersOf returns a copy of all memory of lists, with their lengths.
func numbersOf(lists ...[]int) []int {
	var all []int
	for _, l := range lists {
		all = append(append(all, len(l)), l[:cap(l)]...)
	}
	return all
}

// R2: grids and places stay as they are, with the memory behind them.
func TestGridsStay(t *testing.T) {
	l := fillings()
	for _, g := range allInvalid() {
		l = append(l, filling{g, plain(2, 2), plain(2, 2)}, filling{plain(2, 2), g, g}, filling{plain(33, 33), plain(33, 33), g})
	}
	for _, f := range l {
		for _, isUp := range []bool{true, false} {
			profile, pattern, ground := spare(f.profile, isUp), spare(f.pattern, isUp), spare(f.ground, isUp)
			at, units := spareList(numbers(f.profile), 1), []api.Grid{ground, pattern, {W: 7}}[:2]
			was, wasAt := memory(profile, pattern, ground), numbersOf(at)
			g, _ := block.Fill(profile, pattern, ground)
			g = spare(g, isUp)
			wasFilled := memory(g)
			block.Profile(profile, pattern, ground)
			block.Profile(g, pattern, ground)
			block.Units(g, pattern.W, pattern.H)
			block.Units(profile, 1, 1)
			block.Join(units, at, profile.W)
			if !slices.Equal(memory(profile, pattern, ground), was) || !slices.Equal(memory(g), wasFilled) {
				t.Fatalf("an argument was changed, of%s", show(f.profile, f.pattern, f.ground))
			}
			if !slices.Equal(numbersOf(at), wasAt) || units[:3][2].W != 7 || !slices.Equal(memory(units...), memory(ground, pattern)) {
				t.Fatalf("the arguments of Join were changed, of%s", show(f.profile, f.pattern, f.ground))
			}
		}
	}
}

// R2: lists stay as they are, with the memory behind them.
func TestListsStay(t *testing.T) {
	for _, v := range []int{0, 1, 399, -1} {
		for _, units := range append(threadings(), nil, [][]int{{-1}}, [][]int{{0}, {1, 2}}, allWrong()) {
			for _, list := range append(lists(2, 2), nil, []int{400}, make([]int, 400), make([]int, 401)) {
				l, u := spareList(list, v), spareUnits(units, v)
				wasList, wasUnits := numbersOf(l), numbersOf(u[:cap(u)]...)
				block.Spell(l, u)
				block.Blocks(l, u)
				if !slices.Equal(numbersOf(l), wasList) || !slices.Equal(numbersOf(u[:cap(u)]...), wasUnits) {
					t.Fatalf("an argument was changed, of %v, %v", list, units)
				}
				spelled, _ := block.Spell(l, u)
				spelled = spareList(spelled, v)
				wasList = numbersOf(spelled)
				block.Blocks(spelled, u)
				if !slices.Equal(numbersOf(spelled), wasList) || !slices.Equal(numbersOf(u[:cap(u)]...), wasUnits) {
					t.Fatalf("an argument was changed, of %v, %v", spelled, units)
				}
			}
		}
	}
}

// spoil changes all memory of the cells of grids.
func spoil(grids ...api.Grid) {
	for _, g := range grids {
		l := g.Bits[:cap(g.Bits)]
		for i := range l {
			l[i] = !l[i]
		}
	}
}

// spoilList changes all memory of a list.
func spoilList(l []int) {
	l = l[:cap(l)]
	for i := range l {
		l[i] = -7
	}
}

// R2: a grid as a result can be changed without effect on arguments, other
// results or later calls.
func TestGridsAreNewMemory(t *testing.T) {
	for _, f := range fillings() {
		profile, pattern, ground := spare(f.profile, true), spare(f.pattern, true), spare(f.ground, true)
		at := numbers(profile)
		was, wasAt := memory(profile, pattern, ground), slices.Clone(at)
		g, _ := block.Fill(profile, pattern, ground)
		p, _ := block.Profile(g, pattern, ground)
		j, _ := block.Join([]api.Grid{ground, pattern}, at, profile.W)
		spoil(p, j)
		if want := fillOf(f); !grid.Same(g, want) {
			t.Fatalf("a result shares memory with an argument, of%s", show(f.profile, f.pattern, f.ground))
		}
		spoil(g)
		if !slices.Equal(memory(profile, pattern, ground), was) || !slices.Equal(at, wasAt) {
			t.Fatalf("a result shares memory with an argument, of%s", show(f.profile, f.pattern, f.ground))
		}
		wantFill(t, f, fillOf(f))
	}
}

// R2: units share no memory with the grid, with each other, or with those of
// another call, and neither do the places.
func TestUnitsAreNewMemory(t *testing.T) {
	for _, f := range fillings() {
		g := spare(fillOf(f), true)
		was := memory(g)
		w, h := f.pattern.W, f.pattern.H
		want, wantAt := unitsOf(g, w, h)
		units, at, _ := block.Units(g, w, h)
		others, otherAt, _ := block.Units(g, w, h)
		for i, u := range units {
			if !grid.Same(u, want[i]) {
				t.Fatalf("units share memory with each other, of%s", show(g))
			}
			spoil(u)
		}
		spoilList(at)
		units = append(units, blank(1, 1, true))
		if !slices.EqualFunc(others, want, grid.Same) || !slices.Equal(otherAt, wantAt) || !slices.Equal(memory(g), was) {
			t.Fatalf("results share memory with the argument or with others, of%s", show(g))
		}
		wantUnits(t, g, w, h, want, wantAt)
	}
}

// R2: lists as results share no memory with units or lists.
func TestListsAreNewMemory(t *testing.T) {
	for _, units := range threadings() {
		for _, blocks := range append(lists(2, len(units)), []int{0}, nil) {
			l, u := spareList(blocks, 3), spareUnits(units, 3)
			wasList, wasUnits := numbersOf(l), numbersOf(u...)
			spelled, _ := block.Spell(l, u)
			other, _ := block.Spell(l, u)
			found, _ := block.Blocks(spelled, u)
			spoilList(found)
			if !slices.Equal(spelled, other) {
				t.Fatalf("Blocks shares memory with its argument, of %v, %v", blocks, units)
			}
			spoilList(spelled)
			if !slices.Equal(numbersOf(l), wasList) || !slices.Equal(numbersOf(u...), wasUnits) || !slices.Equal(other, spellOf(blocks, units)[:len(other)]) {
				t.Fatalf("a result shares memory with an argument, of %v, %v", blocks, units)
			}
		}
	}
}

// R2: a call that returns an error has no effect on the ones after it.
func TestNothingIsKept(t *testing.T) {
	for want, l := range invalid() {
		for _, g := range l {
			wantNoFill(t, filling{plain(2, 2), g, plain(3, 3)}, want)
			wantNoProfile(t, plain(2, 2), plain(2, 2), g, want)
			wantNoUnits(t, g, 1, 1, want)
			wantNoUnits(t, plain(2, 2), 3, 1, api.ErrCount)
			wantNoJoin(t, []api.Grid{plain(1, 1), g}, []int{0}, 1, want)
			wantNoJoin(t, []api.Grid{plain(1, 1)}, []int{0, 0, 0, 1}, 2, api.ErrBad)
			wantNoSpell(t, []int{0, 1}, [][]int{{0}}, api.ErrBad)
			wantNoBlocks(t, []int{0, 1}, [][]int{{0}}, api.ErrNone)
			TestExamples(t)
		}
	}
}

// R3: nil and empty cells and lists are alike.
func TestNilAndEmpty(t *testing.T) {
	for _, s := range [][2]int{{0, 0}, {1, 0}, {0, 1}, {1, 1}, {2, 2}, {-1, 1}, {64, 64}} {
		for _, bits := range [][]bool{nil, {}, make([]bool, 0, 4)} {
			g := api.Grid{W: s[0], H: s[1], Bits: bits}
			wantNoFill(t, filling{g, g, g}, api.ErrBad)
			wantNoProfile(t, plain(1, 1), g, plain(1, 1), api.ErrBad)
			wantNoUnits(t, g, 1, 1, api.ErrBad)
			wantNoJoin(t, []api.Grid{g}, []int{0}, 1, api.ErrBad)
		}
	}
	for _, empty := range [][]int{nil, {}, make([]int, 0, 4)} {
		wantNoneOfBoth(t, []int{0}, [][]int{empty}, api.ErrCount)
		wantNoneOfBoth(t, empty, [][]int{empty, {0}}, api.ErrCount)
		wantSpell(t, empty, [][]int{{0}}, empty)
		wantBlocks(t, empty, [][]int{{0}}, empty)
		wantNoJoin(t, []api.Grid{plain(1, 1)}, empty, 1, api.ErrCount)
	}
}

// far has numbers of which sums and products are greater than a number can be.
var far = []int{math.MinInt, math.MinInt + 1, -1 << 32, -65, -64, -2, -1, 0, 1, 2, 3, 4, 31, 32, 33, 63, 64, 65, 128, 4096, 1 << 31, 1 << 32, 1<<32 + 2, math.MaxInt - 1, math.MaxInt}

// R7: no call panics, and all of them end, whatever their arguments are.
func TestNoPanicOfGrids(t *testing.T) {
	for _, w := range far {
		for _, h := range far {
			for _, n := range []int{0, 1, 2, 4, 16, 64, 1024, 4096} {
				g := api.Grid{W: w, H: h, Bits: make([]bool, n)}
				turned := api.Grid{W: h, H: w, Bits: g.Bits}
				for _, f := range []filling{{g, g, g}, {g, turned, g}, {turned, g, g}, {g, g, turned}, {plain(2, 2), g, g}, {plain(2, 2), plain(2, 2), g}} {
					block.Fill(f.profile, f.pattern, f.ground)
					block.Profile(f.profile, f.pattern, f.ground)
				}
				block.Units(g, w, h)
				block.Units(g, h, w)
				block.Join([]api.Grid{g}, make([]int, 16), w)
				block.Join([]api.Grid{g, turned}, make([]int, 16), h)
			}
			for _, g := range []api.Grid{plain(1, 1), plain(2, 4), plain(64, 64), plain(1, 64)} {
				block.Units(g, w, h)
				block.Join([]api.Grid{g, g}, []int{w, h, w, h}, 2)
				block.Join([]api.Grid{g, g}, []int{0, 1, 1, 0}, w)
			}
		}
	}
}

// R7: no call panics, and all of them end, whatever the lists are.
func TestNoPanicOfLists(t *testing.T) {
	for _, v := range far {
		for _, n := range []int{0, 1, 2, 3, 399, 400, 401, 5000} {
			for _, u := range far {
				for _, m := range []int{0, 1, 2, 400, 401} {
					l, unit := slices.Repeat([]int{v}, n), slices.Repeat([]int{u}, m)
					for _, units := range [][][]int{nil, {unit}, {unit, l}, {unit, unit}, {{0}, {1}}, {l, l, nil}} {
						block.Spell(l, units)
						block.Blocks(l, units)
					}
				}
			}
		}
	}
}
