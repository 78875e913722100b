package factor_test

import (
	"math"
	"slices"
	"testing"

	"raddle/api"
	"raddle/draft"
	"raddle/factor"
)

// invalidGrids returns grids with the errors that grid.Check returns for them.
func invalidGrids() map[api.Errno][]api.Grid {
	bits := func(n int) []bool { return make([]bool, n) }
	return map[api.Errno][]api.Grid{
		api.ErrMany: {
			{W: 65, H: 1, Bits: bits(65)}, {W: 1, H: 65, Bits: bits(65)}, {W: 65, H: 65, Bits: bits(65 * 65)},
			{W: 65}, {W: -1, H: 65}, {W: math.MaxInt, H: math.MinInt}, {W: math.MinInt, H: math.MaxInt},
		},
		api.ErrBad: {
			{}, {W: 1}, {H: 1, Bits: bits(1)}, {W: -1, H: -1, Bits: bits(1)}, {W: 2, H: 3}, {W: 2, H: 3, Bits: bits(5)},
			{W: 2, H: 3, Bits: bits(7)}, {W: 64, H: 64, Bits: bits(4095)}, {W: math.MinInt, H: math.MinInt},
		},
	}
}

// invalidDrafts returns drafts with the errors that draft.Check returns for
// them.
func invalidDrafts() map[api.Errno][]api.Draft {
	change := func(change func(d *api.Draft)) api.Draft {
		d := used(3, 4, 6, 7)
		change(&d)
		return d
	}
	return map[api.Errno][]api.Draft{
		api.ErrMany: {
			whole(41, 1, 41, 1), whole(1, 41, 1, 41), whole(1, 1, 65, 1), whole(1, 1, 1, 65),
			{Shafts: math.MaxInt, Treadles: math.MinInt}, {Thread: make([]int, 65)}, {Tread: make([]int, 500)},
			change(func(d *api.Draft) { d.Shafts = 41 }), change(func(d *api.Draft) { d.Treadles = math.MaxInt }),
		},
		api.ErrBad: {
			{}, {Shafts: 1, Treadles: 1}, {Shafts: math.MinInt, Treadles: math.MinInt},
			change(func(d *api.Draft) { d.Shafts = 0 }), change(func(d *api.Draft) { d.Treadles-- }),
			change(func(d *api.Draft) { d.Shafts++ }), change(func(d *api.Draft) { d.Treadles++ }),
			change(func(d *api.Draft) { d.Thread = nil }), change(func(d *api.Draft) { d.Tread = nil }),
			change(func(d *api.Draft) { d.Thread[5] = 3 }), change(func(d *api.Draft) { d.Tread[0] = -1 }),
			change(func(d *api.Draft) { d.Thread[0] = math.MaxInt }), change(func(d *api.Draft) { d.Tread[6] = math.MinInt }),
			change(func(d *api.Draft) { d.Tie = api.Grid{} }), change(func(d *api.Draft) { d.Tie.Bits = d.Tie.Bits[1:] }),
			change(func(d *api.Draft) { d.Tie.W, d.Tie.H = d.Tie.H, d.Tie.W }),
		},
	}
}

// R1: the error of a grid comes first, with no other result.
func TestErrorsOfGrids(t *testing.T) {
	for want, grids := range invalidGrids() {
		for _, g := range grids {
			if l, e := factor.Columns(g); l != nil || e != want {
				t.Errorf("Columns of %d by %d: %v, %d, want %d", g.W, g.H, l, e, want)
			}
			if l, e := factor.Rows(g); l != nil || e != want {
				t.Errorf("Rows of %d by %d: %v, %d, want %d", g.W, g.H, l, e, want)
			}
			if s, v, e := factor.Count(g); s != 0 || v != 0 || e != want {
				t.Errorf("Count of %d by %d: %d, %d, %d, want %d", g.W, g.H, s, v, e, want)
			}
			if d, e := factor.Of(g); !draft.Same(d, api.Draft{}) || e != want {
				t.Errorf("Of %d by %d: %v, %d, want %d", g.W, g.H, d, e, want)
			}
		}
	}
}

// R1: the error of the first draft comes first, and then that of the second
// one, before the error of a shaft that is not used, and of what has no match.
func TestErrorsOfDrafts(t *testing.T) {
	fine, other := used(3, 4, 6, 7), used(2, 2, 3, 3)
	unused := fine
	unused.Thread = make([]int, 6)
	for want, l := range invalidDrafts() {
		for _, d := range l {
			if is, e := factor.Least(d); is || e != want {
				t.Errorf("Least of %v: %v, %d, want %d", d, is, e, want)
			}
			for _, valid := range []api.Draft{fine, other, unused} {
				wantNoMatch(t, d, valid, want)
				wantNoMatch(t, valid, d, want)
			}
			for _, second := range invalidDrafts() {
				for _, b := range second {
					wantNoMatch(t, d, b, want)
				}
			}
		}
	}
	wantNoMatch(t, unused, other, api.ErrArg)
	wantNoMatch(t, fine, other, api.ErrNone)
}

// spareList and spareBits return copies whose memory goes on behind them.
func spareList(l []int) []int {
	return append(slices.Clone(l), slices.Repeat([]int{77}, 90)...)[:len(l)]
}
func spareBits(l []bool) []bool {
	return append(slices.Clone(l), slices.Repeat([]bool{true}, 90)...)[:len(l)]
}

// spare returns a copy of a draft whose memory goes on behind its lists.
func spare(d api.Draft) api.Draft {
	d.Thread, d.Tread, d.Tie.Bits = spareList(d.Thread), spareList(d.Tread), spareBits(d.Tie.Bits)
	return d
}

// memory returns a copy of all memory of a draft, and of a grid in it.
func memory(d api.Draft) api.Draft {
	d.Thread = slices.Clone(d.Thread[:cap(d.Thread)])
	d.Tread = slices.Clone(d.Tread[:cap(d.Tread)])
	d.Tie.Bits = slices.Clone(d.Tie.Bits[:cap(d.Tie.Bits)])
	return d
}

// spoil changes all memory of a list.
func spoil(l []int) {
	l = l[:cap(l)]
	for i := range l {
		l[i] = 99
	}
}

// anyDrafts returns drafts, some of which are not valid.
func anyDrafts() []api.Draft {
	l := append(fewDrafts(), sizedDrafts()...)
	for _, invalid := range invalidDrafts() {
		l = append(l, invalid...)
	}
	return l
}

// R2: the arguments stay as they are, with the memory behind them.
func TestArgumentsStay(t *testing.T) {
	for _, d := range anyDrafts() {
		d = spare(d)
		before := memory(d)
		factor.Columns(d.Tie)
		factor.Rows(d.Tie)
		factor.Count(d.Tie)
		factor.Of(d.Tie)
		factor.Least(d)
		factor.Match(d, d)
		factor.Match(d, used(3, 4, 6, 7))
		factor.Match(used(3, 4, 6, 7), d)
		if !draft.Same(memory(d), before) {
			t.Fatalf("the argument %v was changed", d)
		}
	}
}

// R2: a result can be changed without effect on arguments, on other results,
// or on later calls.
func TestResultsAreNewMemory(t *testing.T) {
	for _, g := range samples() {
		g.Bits = spareBits(g.Bits)
		before := memory(api.Draft{Tie: g})
		xs, _ := factor.Columns(g)
		ys, _ := factor.Rows(g)
		d, least := of(t, g), of(t, g)
		kept := memory(least)
		spoil(xs)
		spoil(ys)
		spoil(d.Thread)
		if !slices.Equal(d.Tread, least.Tread) {
			t.Fatal("the lists of Of share their memory")
		}
		spoil(d.Tread)
		bits := d.Tie.Bits[:cap(d.Tie.Bits)]
		for i := range bits {
			bits[i] = !bits[i]
		}
		if !draft.Same(memory(api.Draft{Tie: g}), before) || !draft.Same(memory(least), kept) {
			t.Fatalf("results share their memory: %s", show(g))
		}
		again, e := factor.Of(g)
		wantDraft(t, "Of again", again, e, least)
	}
}

// R2
func TestListsOfMatchAreNewMemory(t *testing.T) {
	for _, n := range [][4]int{{1, 1, 1, 1}, {3, 3, 3, 3}, {40, 40, 64, 64}, {5, 7, 8, 9}} {
		a := used(n[0], n[1], n[2], n[3])
		a.Thread = a.Thread[:len(a.Thread):len(a.Thread)]
		before := memory(a)
		shafts, treadles, _ := factor.Match(a, a)
		spoil(shafts)
		if !slices.Equal(treadles, numbers(n[1])) {
			t.Fatal("the lists of Match share their memory")
		}
		spoil(treadles)
		if !draft.Same(memory(a), before) {
			t.Fatal("Match shares its memory with a draft")
		}
		shafts, treadles, e := factor.Match(a, a)
		if e != api.OK || !slices.Equal(shafts, numbers(n[0])) || !slices.Equal(treadles, numbers(n[1])) {
			t.Fatalf("Match again: %v, %v, %d", shafts, treadles, e)
		}
	}
}

// R2: the lists of the least draft are apart where they are the same, too,
// and so are those of the match of drafts that share theirs.
func TestListsAreApart(t *testing.T) {
	l := spareList([]int{1, 0, 2})
	d := api.Draft{
		Shafts: 3, Treadles: 3, Thread: l, Tread: l,
		Tie: build(3, 3, func(x, y int) bool { return x == y }),
	}
	shafts, treadles, e := factor.Match(d, d)
	if e != api.OK {
		t.Fatal(e)
	}
	spoil(shafts)
	if !slices.Equal(treadles, []int{0, 1, 2}) || !slices.Equal(l, []int{1, 0, 2}) {
		t.Fatalf("the lists share their memory: %v, %v", treadles, l)
	}
}

// R7: no call panics, whatever its arguments are.
func TestNoPanic(t *testing.T) {
	sizes := []int{math.MinInt, -1, 0, 1, 2, 40, 41, 64, 65, math.MaxInt}
	for _, w := range sizes {
		for _, h := range sizes {
			for _, n := range []int{0, 1, 2, 64, 4096} {
				g := api.Grid{W: w, H: h, Bits: make([]bool, n)}
				factor.Columns(g)
				factor.Rows(g)
				factor.Count(g)
				factor.Of(g)
				d := api.Draft{Shafts: h, Treadles: w, Thread: []int{0, w}, Tread: []int{h}, Tie: g}
				factor.Least(d)
				factor.Match(d, d)
				factor.Match(d, used(2, 2, 2, 2))
				factor.Match(used(2, 2, 2, 2), d)
			}
		}
	}
	l := anyDrafts()
	for i, a := range l {
		factor.Least(a)
		factor.Match(a, l[(i+1)%len(l)])
		factor.Match(a, l[len(l)-1-i])
	}
}
