package picture_test

import (
	"math"
	"slices"
	"testing"

	"raddle/api"
	"raddle/grid"
	"raddle/picture"
)

// strange has numbers that are no colours.
var strange = []int{-1, 16, 17, 255, 1 << 32, math.MinInt, math.MaxInt}

// invalidImages returns images of which each one is not valid.
func invalidImages() []api.Image {
	l := []api.Image{
		{}, {W: 1}, {H: 1}, {C: []int{0}}, {W: 1, H: 1}, {W: 2, H: 2, C: make([]int, 3)}, {W: 2, H: 2, C: make([]int, 5)}, {W: 65, H: 1, C: make([]int, 65)}, {W: 1, H: 65, C: make([]int, 65)},
		{W: -1, H: -1, C: make([]int, 1)}, {W: -2, H: -2, C: make([]int, 4)}, {W: 64, H: 65, C: make([]int, 64*65)}, {W: 0, H: 65, C: []int{16}}, {W: math.MinInt, H: math.MaxInt, C: []int{-1}},
		{W: 1<<32 + 1, H: 1<<32 + 1, C: make([]int, 1)}, {W: math.MinInt, H: 2}, {W: 64, H: 64, C: make([]int, 64*64-1)}, {W: 64, H: 64, C: make([]int, 64*64+1)},
	}
	for _, c := range strange {
		l = append(l, api.Image{W: 2, H: 2, C: []int{0, 1, c, 2}}, api.Image{W: 2, H: 2, C: []int{c, 1, 1, 2}}, api.Image{W: 2, H: 2, C: []int{0, 0, 0, c}}, api.Image{W: 1, H: 1, C: []int{c}})
	}
	return l
}

// imagesOfAllKinds returns images that are valid, and ones that are not.
func imagesOfAllKinds() []api.Image {
	return append(invalidImages(), plain(1, 1, 0), plain(1, 1, 15), plain(2, 2, 0), build(2, 2, func(x, y int) int { return y*2 + x }), plain(3, 1, 1), plain(1, 3, 1), plain(64, 64, 0), plain(64, 1, 0), plain(1, 64, 0))
}

// invalidGrids returns grids with the errors that grid.Check returns for them.
func invalidGrids() map[api.Errno][]api.Grid {
	bits := func(n int) []bool { return make([]bool, n) }
	return map[api.Errno][]api.Grid{
		api.ErrMany: {{W: 65, H: 1, Bits: bits(65)}, {W: 1, H: 65, Bits: bits(65)}, {W: -1, H: 65}, {W: 65, H: 65, Bits: bits(65 * 65)}, {W: math.MaxInt, H: math.MinInt}},
		api.ErrBad:  {{}, {W: 1}, {W: -1, H: -1, Bits: bits(1)}, {W: 2, H: 2, Bits: bits(3)}, {W: 2, H: 2, Bits: bits(5)}, {W: 64, H: 64, Bits: bits(256)}, {W: math.MinInt, H: math.MinInt}},
	}
}

// gridsOfAllKinds returns grids that are valid, and ones that are not.
func gridsOfAllKinds() []api.Grid {
	l := []api.Grid{blank(1, 1, true), blank(1, 1, false), blank(2, 2, true), random(2, 2, 1), blank(3, 1, true), blank(1, 3, false), random(64, 64, 1), blank(64, 1, true), blank(1, 64, true), blank(4, 1, true), blank(1, 4, false)}
	for _, e := range []api.Errno{api.ErrMany, api.ErrBad} {
		l = append(l, invalidGrids()[e]...)
	}
	return l
}

// listsOfAllKinds returns lists of few and of many numbers that are colours, or
// are none.
func listsOfAllKinds() [][]int {
	l := [][]int{nil, {}, {0}, {15}, {0, 1}, {1, 0}, {2, 3}, {1, 2, 3}, {1, 1, 1}, make([]int, 64), make([]int, 65), make([]int, 400)}
	for _, c := range []int{-1, 16, math.MinInt} {
		l = append(l, []int{c}, []int{0, c}, []int{c, 1}, []int{1, c, 1}, append(make([]int, 63), c), append(make([]int, 64), c))
	}
	return l
}

// areColours reports whether all numbers of lists are colours.
func areColours(lists ...[]int) bool {
	for _, c := range slices.Concat(lists...) {
		if !slices.Contains(all, c) {
			return false
		}
	}
	return true
}

// isSide reports whether a number is a side of a grid or an image.
func isSide(n int) bool { return n >= 1 && n <= 64 }

// errorOf returns the error of an image and thread colours, by the chapter.
func errorOf(d dyed) api.Errno {
	m := d.m
	switch {
	case !isSide(m.W) || !isSide(m.H) || len(m.C) != m.W*m.H || !areColours(m.C):
		return api.ErrBad
	case len(d.warp) != m.W || len(d.weft) != m.H:
		return api.ErrCount
	case !areColours(d.warp, d.weft):
		return api.ErrBad
	}
	return api.OK
}

// errorWith returns the error of them and a grid, by the chapter.
func errorWith(g api.Grid, d dyed) api.Errno {
	if e := errorOf(d); e != api.OK {
		return e
	}
	switch {
	case g.W > 64 || g.H > 64:
		return api.ErrMany
	case g.W < 1 || g.H < 1 || len(g.Bits) != g.W*g.H:
		return api.ErrBad
	case g.W != d.m.W || g.H != d.m.H:
		return api.ErrCount
	}
	return api.OK
}

// R1: the errors come in the order of the chapter: those of the image, of the
// numbers of thread colours, of the colours, of the grid, of its size, and at last
// that a cell is impossible.
func TestOrderOfErrors(t *testing.T) {
	found := map[api.Errno]int{}
	grids, lists := gridsOfAllKinds(), listsOfAllKinds()
	for _, m := range imagesOfAllKinds() {
		for _, warp := range lists {
			for _, weft := range lists {
				d := dyed{m, warp, weft}
				e := errorOf(d)
				if e == api.OK && !isFit(d) {
					e = api.ErrNone
				}
				if e != api.OK {
					wantNoCells(t, d, e)
				} else {
					wantCells(t, d, has(d, forcedUp), has(d, open))
				}
				for _, g := range grids {
					found[wantErrorsWith(t, g, d)]++
				}
			}
		}
	}
	for _, e := range []api.Errno{api.OK, api.ErrBad, api.ErrCount, api.ErrMany, api.ErrNone} {
		if found[e] < 10 {
			t.Errorf("the error %d was found %d times", e, found[e])
		}
	}
}

// wantErrorsWith checks the errors of Weave and Shows, and returns that of Weave.
func wantErrorsWith(t *testing.T, g api.Grid, d dyed) api.Errno {
	t.Helper()
	e := errorWith(g, d)
	if e != api.OK {
		wantShows(t, g, d, false, e)
		wantNoWeave(t, d, g, e)
		return e
	}
	wantShows(t, g, d, isShown(g, d), api.OK)
	if !isFit(d) {
		wantNoWeave(t, d, g, api.ErrNone)
		return api.ErrNone
	}
	wantWeave(t, d, g, woven(d, g))
	return api.OK
}

// R1: some of these pairs of errors by hand.
func TestPairsOfErrors(t *testing.T) {
	good := build(2, 2, func(x, y int) int { return x })
	bad := api.Image{W: 2, H: 2, C: []int{0, 1, 0, 16}}
	many, short, other := blank(2, 2, true), blank(2, 2, true), blank(3, 2, true)
	many.W, short.Bits = 65, short.Bits[:3]
	for _, c := range []struct {
		d             dyed
		g             api.Grid
		cells, others api.Errno
	}{
		{dyed{bad, []int{0}, []int{16}}, many, api.ErrBad, api.ErrBad},
		{dyed{bad, []int{0}, []int{0}}, many, api.ErrBad, api.ErrBad},
		{dyed{good, []int{0}, []int{16, 0}}, many, api.ErrCount, api.ErrCount},
		{dyed{good, []int{16, 0}, []int{0}}, short, api.ErrCount, api.ErrCount},
		{dyed{good, []int{0, 1}, []int{0, 0, 0}}, many, api.ErrCount, api.ErrCount},
		{dyed{good, []int{0, 1, 0}, []int{0, 0}}, short, api.ErrCount, api.ErrCount},
		{dyed{good, []int{0, 1, 0}, []int{0, 0, -1}}, short, api.ErrCount, api.ErrCount},
		{dyed{good, []int{0, 16}, []int{0, 0}}, many, api.ErrBad, api.ErrBad},
		{dyed{good, []int{0, 1}, []int{-1, 0}}, other, api.ErrBad, api.ErrBad},
		{dyed{good, []int{3, 3}, []int{-1, 3}}, many, api.ErrBad, api.ErrBad},
		{dyed{good, []int{3, 3}, []int{3, 3}}, many, api.ErrNone, api.ErrMany},
		{dyed{good, []int{3, 3}, []int{3, 3}}, short, api.ErrNone, api.ErrBad},
		{dyed{good, []int{3, 3}, []int{3, 3}}, other, api.ErrNone, api.ErrCount},
	} {
		wantNoCells(t, c.d, c.cells)
		wantNoWeave(t, c.d, c.g, c.others)
		wantShows(t, c.g, c.d, false, c.others)
	}
}

// R1: one colour among many that is none, of an end or of a pick.
func TestColoursThatAreNone(t *testing.T) {
	for _, s := range append(greatSizes, smallSizes...) {
		g := random(s[0], s[1], 4)
		for _, no := range strange {
			for i := range s[0] + s[1] {
				l := make([]int, s[0]+s[1])
				l[i] = no
				d := dyed{plain(s[0], s[1], 0), l[:s[0]], l[s[0]:]}
				wantNoCells(t, d, api.ErrBad)
				wantNoWeave(t, d, g, api.ErrBad)
				wantShows(t, g, d, false, api.ErrBad)
			}
		}
	}
}

// R1: too few and too many colours of ends, of picks and of both.
func TestNumbersOfColours(t *testing.T) {
	for _, s := range append(greatSizes, smallSizes...) {
		g, m := blank(s[0], s[1], true), plain(s[0], s[1], 0)
		for _, ends := range []int{0, s[0] - 1, s[0], s[0] + 1, s[1], 65} {
			for _, picks := range []int{0, s[1] - 1, s[1], s[1] + 1, s[0], 65} {
				d := dyed{m, make([]int, ends), make([]int, picks)}
				if ends == s[0] && picks == s[1] {
					wantCells(t, d, blank(s[0], s[1], false), g)
					wantShows(t, g, d, true, api.OK)
					continue
				}
				wantNoCells(t, d, api.ErrCount)
				wantNoWeave(t, d, g, api.ErrCount)
				wantShows(t, g, d, false, api.ErrCount)
			}
		}
	}
}

// R1: grids that are not valid, and grids of another size.
func TestOtherGrids(t *testing.T) {
	for _, s := range append(greatSizes, smallSizes...) {
		d := dyed{plain(s[0], s[1], 5), slices.Repeat([]int{5}, s[0]), slices.Repeat([]int{5}, s[1])}
		for want, grids := range invalidGrids() {
			for _, g := range grids {
				wantNoWeave(t, d, g, want)
				wantShows(t, g, d, false, want)
			}
		}
		for _, other := range append(greatSizes, smallSizes...) {
			g := random(other[0], other[1], 6)
			if other == s {
				wantWeave(t, d, g, g)
				wantShows(t, g, d, true, api.OK)
				continue
			}
			wantNoWeave(t, d, g, api.ErrCount)
			wantShows(t, g, d, false, api.ErrCount)
		}
	}
}

// R1: First and Choices of images that are not valid.
func TestInvalidImages(t *testing.T) {
	for _, m := range invalidImages() {
		wantNoFit(t, m, api.ErrBad)
	}
	for _, s := range [][2]int{{1, 1}, {2, 3}, {16, 16}} {
		for i := range s[0] * s[1] {
			for _, c := range strange {
				m := plain(s[0], s[1], 3)
				m.C[i] = c
				wantNoFit(t, m, api.ErrBad)
			}
		}
	}
}

// spare returns a copy of a list whose memory goes on behind it.
func spare[T any](l []T, v T) []T {
	return append(slices.Clone(l), slices.Repeat([]T{v}, 70)...)[:len(l)]
}

// whole returns a copy of all memory of a list.
func whole[T any](l []T) []T { return slices.Clone(l[:cap(l)]) }

// callAll calls all functions with these arguments.
func callAll(g api.Grid, d dyed) {
	picture.Cells(d.m, d.warp, d.weft)
	picture.Weave(d.m, d.warp, d.weft, g)
	picture.Shows(g, d.m, d.warp, d.weft)
	picture.First(d.m)
	picture.Choices(d.m)
}

// R2: arguments stay as they are, with the memory behind them.
func TestArgumentsStay(t *testing.T) {
	check := func(g api.Grid, d dyed) {
		for _, v := range []int{0, 15, -1} {
			h := api.Grid{W: g.W, H: g.H, Bits: spare(g.Bits, v == 0)}
			k := dyed{api.Image{W: d.m.W, H: d.m.H, C: spare(d.m.C, v)}, spare(d.warp, v), spare(d.weft, v)}
			bits, c, warp, weft := whole(h.Bits), whole(k.m.C), whole(k.warp), whole(k.weft)
			callAll(h, k)
			if !slices.Equal(whole(h.Bits), bits) || !slices.Equal(whole(k.m.C), c) || !slices.Equal(whole(k.warp), warp) || !slices.Equal(whole(k.weft), weft) {
				t.Fatalf("an argument was changed, of %v, %v", g, d)
			}
		}
	}
	for _, m := range append(invalidImages(), plain(1, 1, 0), plain(2, 2, 0), readImage(t, "abc\ndef\n")) {
		for _, g := range append(invalidGrids()[api.ErrBad], random(2, 2, 1), blank(3, 2, true)) {
			for _, l := range [][]int{nil, {0}, {0, 1}, {16, 1}, {3, 3}, {1, 2, 3}} {
				check(g, dyed{m, l, []int{0, 1}})
				check(g, dyed{m, []int{0, 1}, l})
			}
		}
	}
	for _, s := range append(greatSizes, smallSizes...) {
		warp, weft := someColours(s[0], 3, 1), someColours(s[1], 3, 2)
		g := random(s[0], s[1], 3)
		m := front(t, g, warp, weft)
		check(g, dyed{m, warp, weft})
		check(blank(s[0], s[1], true), dyed{m, make([]int, s[0]), weft})
	}
}

// spoil changes all memory of a list.
func spoil[T any](l []T, v T) {
	l = l[:cap(l)]
	for i := range l {
		l[i] = v
	}
}

// R2: the grids that are results can be changed without effect on arguments, other
// results or later calls.
func TestGridsAreNewMemory(t *testing.T) {
	cloths(t, func(g api.Grid, d dyed) {
		for _, v := range []bool{true, false} {
			h := api.Grid{W: g.W, H: g.H, Bits: spare(g.Bits, !v)}
			bits := whole(h.Bits)
			up, free, _ := picture.Cells(d.m, d.warp, d.weft)
			shown, _ := picture.Weave(d.m, d.warp, d.weft, h)
			wantUp, wantOpen := has(d, forcedUp), has(d, open)
			spoil(shown.Bits, v)
			if !slices.Equal(whole(h.Bits), bits) || !grid.Same(up, wantUp) || !grid.Same(free, wantOpen) {
				t.Fatalf("Weave of %v shares memory", d)
			}
			spoil(up.Bits, v)
			if !grid.Same(free, wantOpen) {
				t.Fatalf("both grids of %v share memory", d)
			}
			spoil(free.Bits, v)
			wantCells(t, d, wantUp, wantOpen)
			wantWeave(t, d, g, g)
		}
	})
}

// R2: the same for the lists of First and of Choices.
func TestListsAreNewMemory(t *testing.T) {
	for i, m := range fitting(t) {
		if m.W*m.H > 1000 && i%9 > 0 {
			continue
		}
		was := whole(m.C)
		warp, weft, _ := picture.First(m)
		wantWarp, wantWeft := slices.Clone(warp), slices.Clone(weft)
		spoil(warp, -7)
		if !slices.Equal(weft, wantWeft) {
			t.Fatalf("both lists of First of %s share memory", text(m))
		}
		spoil(weft, -7)
		wantFirst(t, m, wantWarp, wantWeft)
		ends, picks, _ := picture.Choices(m)
		var wantLists, lists [][]int
		for _, l := range slices.Concat(ends, picks) {
			wantLists, lists = append(wantLists, slices.Clone(l)), append(lists, l)
		}
		spoil(ends, nil)
		if !isSameLists(picks, wantLists[m.W:]) {
			t.Fatalf("both lists of Choices of %s share memory", text(m))
		}
		spoil(picks, nil)
		for k, l := range lists {
			if !slices.Equal(l, wantLists[k]) {
				t.Fatalf("lists of Choices of %s share memory: %v", text(m), l)
			}
			spoil(l, -7)
		}
		if !slices.Equal(whole(m.C), was) {
			t.Fatalf("a result shares memory with %s", text(m))
		}
		wantChoices(t, m, wantLists[:m.W], wantLists[m.W:])
	}
}

// R2: a call that returns an error has no effect on the ones after it.
func TestNothingIsKept(t *testing.T) {
	d := dyed{plain(2, 2, 3), []int{3, 3}, []int{3, 3}}
	for _, m := range invalidImages() {
		wantNoFit(t, m, api.ErrBad)
		wantNoCells(t, dyed{m, []int{0}, nil}, api.ErrBad)
		wantNoFit(t, readImage(t, "abc\ndef\n"), api.ErrNone)
		wantNoCells(t, dyed{d.m, []int{3, 4}, []int{3, 4}}, api.ErrNone)
		TestExamples(t)
	}
	for want, grids := range invalidGrids() {
		for _, g := range grids {
			wantNoWeave(t, d, g, want)
			wantShows(t, g, d, false, want)
			TestExamples(t)
		}
	}
}

// R2: the same call has the same result.
func TestSameCallsAgain(t *testing.T) {
	for range 3 {
		TestExamples(t)
		TestSomeCells(t)
		TestSomeFits(t)
	}
}

// R3: nil and empty lists are alike.
func TestNilAndEmpty(t *testing.T) {
	for _, empty := range [][]int{nil, {}, make([]int, 0, 4)} {
		for _, s := range [][2]int{{0, 0}, {1, 0}, {0, 1}, {1, 1}, {64, 64}, {65, 65}} {
			m := api.Image{W: s[0], H: s[1], C: empty}
			wantNoFit(t, m, api.ErrBad)
			wantNoCells(t, dyed{m, empty, empty}, api.ErrBad)
			wantShows(t, api.Grid{}, dyed{m, empty, empty}, false, api.ErrBad)
		}
		wantNoCells(t, dyed{plain(1, 1, 0), empty, []int{0}}, api.ErrCount)
		wantNoCells(t, dyed{plain(1, 1, 0), []int{0}, empty}, api.ErrCount)
		wantNoCells(t, dyed{plain(1, 1, 0), empty, empty}, api.ErrCount)
	}
	for _, empty := range [][]bool{nil, {}, make([]bool, 0, 4)} {
		d := dyed{plain(1, 1, 0), []int{0}, []int{0}}
		wantNoWeave(t, d, api.Grid{W: 1, H: 1, Bits: empty}, api.ErrBad)
		wantShows(t, api.Grid{Bits: empty}, d, false, api.ErrBad)
	}
}

// far has numbers of which sums and products are greater than a number can be.
var far = []int{math.MinInt, math.MinInt + 1, -1 << 32, -65, -2, -1, 0, 1, 2, 4, 15, 16, 63, 64, 65, 128, 4096, 1 << 31, 1 << 32, 1<<32 + 2, math.MaxInt - 1, math.MaxInt}

// R7: no call panics, and all of them end, whatever their arguments are.
func TestNoPanic(t *testing.T) {
	for _, w := range far {
		for _, h := range far {
			for _, n := range []int{0, 1, 2, 4, 64, 65, 256} {
				g := api.Grid{W: w, H: h, Bits: make([]bool, n)}
				for _, c := range []int{0, 15, 16, -1, w} {
					l := slices.Repeat([]int{c}, n)
					callAll(g, dyed{api.Image{W: w, H: h, C: l}, l, []int{w, h}})
					callAll(g, dyed{plain(2, 2, 1), []int{w, h}, l})
					callAll(random(2, 2, 1), dyed{plain(2, 2, 1), []int{1, 1}, []int{w, h}})
				}
			}
		}
	}
}
