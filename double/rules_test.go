package double_test

import (
	"cmp"
	"math"
	"slices"
	"testing"

	"raddle/api"
	"raddle/double"
	"raddle/grid"
)

// invalid returns grids with the errors that grid.Check returns for them.
func invalid() map[api.Errno][]api.Grid {
	bits := func(n int) []bool { return make([]bool, n) }
	return map[api.Errno][]api.Grid{
		api.ErrMany: {
			{W: 65, H: 1, Bits: bits(65)}, {W: 1, H: 65, Bits: bits(65)}, {W: 65}, {W: -1, H: 65}, {W: 65, H: 65, Bits: bits(65 * 65)},
			{W: math.MaxInt, H: math.MinInt}, {W: math.MinInt, H: math.MaxInt}, {W: math.MaxInt, H: math.MaxInt}, {W: 2, H: 66, Bits: bits(132)},
		},
		api.ErrBad: {
			{}, {W: 1}, {H: 1, Bits: bits(1)}, {W: 1, H: 1}, {W: -1, H: -1, Bits: bits(1)}, {W: 2, H: 3}, {W: 2, H: 3, Bits: bits(5)},
			{W: 2, H: 3, Bits: bits(7)}, {W: math.MinInt, H: math.MinInt}, {W: 64, H: 64, Bits: bits(256)}, {W: 0, H: 64, Bits: bits(64)},
			{W: 2, H: 2, Bits: bits(3)}, {W: 0, H: 2, Bits: []bool{}}, {W: -2, H: 2, Bits: bits(4)},
		},
	}
}

// allInvalid returns grids of which each one is not valid.
func allInvalid() []api.Grid {
	l := invalid()
	return slices.Concat(l[api.ErrMany], l[api.ErrBad])
}

// valid returns valid grids with many sides.
func valid() []api.Grid {
	var l []api.Grid
	for _, s := range [][2]int{{1, 1}, {1, 2}, {2, 1}, {2, 2}, {2, 3}, {32, 32}, {33, 32}, {32, 33}, {64, 64}, {1, 64}, {64, 1}} {
		l = append(l, plain(s[0], s[1]))
	}
	return l
}

// wantNoWeave checks that there is no double cloth.
func wantNoWeave(t *testing.T, m three, want api.Errno) {
	t.Helper()
	if g, e := double.Weave(m.a, m.b, m.motif); !isNone(g) || e != want {
		t.Fatalf("Weave of%s: %s, %d, want %d", show(m.a, m.b, m.motif), show(g), e, want)
	}
}

// wantNoFace checks that there is no face.
func wantNoFace(t *testing.T, m three, want api.Errno) {
	t.Helper()
	if g, e := double.Face(m.a, m.b, m.motif); !isNone(g) || e != want {
		t.Fatalf("Face of%s: %s, %d, want %d", show(m.a, m.b, m.motif), show(g), e, want)
	}
}

// wantNoTube checks that there is no tube.
func wantNoTube(t *testing.T, g api.Grid, want api.Errno) {
	t.Helper()
	if tube, e := double.Tube(g); !isNone(tube) || e != want {
		t.Fatalf("Tube of%s: %s, %d, want %d", show(g), show(tube), e, want)
	}
}

// wantNoBack checks that there is no back.
func wantNoBack(t *testing.T, g api.Grid, want api.Errno) {
	t.Helper()
	if back, e := double.Back(g); !isNone(back) || e != want {
		t.Fatalf("Back of%s: %s, %d, want %d", show(g), show(back), e, want)
	}
}

// R1: the error of a grid comes first, with no other result.
func TestErrorsOfOneGrid(t *testing.T) {
	for want, l := range invalid() {
		for _, g := range l {
			wantNoBack(t, g, want)
			wantNoTube(t, g, want)
			wantNotApart(t, g, want)
		}
	}
}

// R1: the first, the second or the third grid is not valid; the other two may
// have different sides, or be too great.
func TestErrorsOfEachGrid(t *testing.T) {
	for want, l := range invalid() {
		for _, g := range l {
			for _, p := range valid() {
				for _, q := range valid() {
					for _, m := range []three{{g, p, q}, {p, g, q}, {p, q, g}} {
						wantNoWeave(t, m, want)
						wantNoFace(t, m, want)
					}
				}
			}
		}
	}
}

// R1: of several grids that are not valid, the first one's error is returned.
func TestErrorsOfSeveralGrids(t *testing.T) {
	differ := 0
	for _, a := range append(allInvalid(), plain(2, 3), plain(64, 64)) {
		for _, b := range append(allInvalid(), plain(2, 3), plain(1, 1)) {
			for _, motif := range append(allInvalid(), plain(2, 3), plain(2, 2)) {
				m, want := three{a, b, motif}, cmp.Or(grid.Check(a), grid.Check(b), grid.Check(motif))
				if want == api.OK {
					continue
				}
				wantNoWeave(t, m, want)
				wantNoFace(t, m, want)
				if grid.Check(a)+grid.Check(b)+grid.Check(motif) != 3*want {
					differ++
				}
			}
		}
	}
	if differ < 100 {
		t.Errorf("in only %d cases the errors differ", differ)
	}
}

// R1: sides that differ, in the width or the height only or in both, between
// any two grids, also if they are too great, are ErrArg; and ErrMany comes
// afterwards.
func TestErrorsOfSides(t *testing.T) {
	numbers := []int{1, 2, 3, 31, 32, 33, 63, 64}
	for _, w := range numbers {
		for _, h := range numbers {
			g := random(w, h, 5)
			for _, s := range [][2]int{{w - 1, h}, {w + 1, h}, {w, h - 1}, {w, h + 1}, {h, w}, {w + 1, h + 1}, {1, w * h}, {w * h, 1}, {64, 64}, {1, 1}} {
				if s[0] < 1 || s[1] < 1 || s[0] > 64 || s[1] > 64 || s == [2]int{w, h} {
					continue
				}
				other := random(s[0], s[1], 6)
				for _, m := range []three{{other, g, g}, {g, other, g}, {g, g, other}, {other, other, g}, {other, g, other}, {g, other, other}} {
					wantNoWeave(t, m, api.ErrArg)
					wantNoFace(t, m, api.ErrArg)
				}
			}
			same := three{g, g, g}
			wantFace(t, same, g)
			if w > 32 || h > 32 {
				wantNoWeave(t, same, api.ErrMany)
				wantNoTube(t, g, api.ErrMany)
			} else {
				wantWeave(t, same, doubleOf(same))
				wantTube(t, g, tubeOf(g))
			}
		}
	}
	// All three differ.
	wantNoWeave(t, three{plain(2, 3), plain(3, 2), plain(6, 1)}, api.ErrArg)
	wantNoFace(t, three{plain(2, 3), plain(3, 2), plain(6, 1)}, api.ErrArg)
	wantNoWeave(t, three{plain(33, 33), plain(64, 33), plain(33, 64)}, api.ErrArg)
}

// spare returns a copy of a grid whose memory goes on behind its cells, all up
// or all down.
func spare(g api.Grid, isUp bool) api.Grid {
	n := len(g.Bits)
	return api.Grid{W: g.W, H: g.H, Bits: append(slices.Clone(g.Bits), slices.Repeat([]bool{isUp}, 140)...)[:n]}
}

// memory returns a copy of all memory of the cells of grids.
func memory(grids ...api.Grid) []bool {
	var l []bool
	for _, g := range grids {
		l = append(l, g.Bits[:cap(g.Bits)]...)
	}
	return l
}

// R2: the arguments stay as they are, with the memory behind them.
func TestArgumentsStay(t *testing.T) {
	l := samples()
	for _, g := range allInvalid() {
		l = append(l, three{g, plain(2, 2), plain(2, 2)}, three{plain(2, 2), g, g}, three{plain(33, 33), plain(33, 33), g})
	}
	for _, m := range append(l, threes(64, 64)...) {
		for _, isUp := range []bool{true, false} {
			a, b, motif := spare(m.a, isUp), spare(m.b, isUp), spare(m.motif, isUp)
			was := memory(a, b, motif)
			cloth, _ := double.Weave(a, b, motif)
			double.Face(a, b, motif)
			for _, g := range []api.Grid{a, b, motif} {
				double.Back(g)
				double.Tube(g)
				double.Apart(g)
			}
			if !slices.Equal(memory(a, b, motif), was) {
				t.Fatalf("an argument was changed, of%s", show(m.a, m.b, m.motif))
			}
			cloth = spare(cloth, isUp)
			was = memory(cloth)
			double.Apart(cloth)
			if !slices.Equal(memory(cloth), was) {
				t.Fatalf("the argument of Apart was changed, of%s", show(m.a, m.b, m.motif))
			}
		}
	}
}

// spoil changes all memory of the cells of a grid.
func spoil(g api.Grid) {
	l := g.Bits[:cap(g.Bits)]
	for i := range l {
		l[i] = !l[i]
	}
}

// R2: a result can be changed without effect on arguments, other results or
// later calls.
func TestResultsAreNewMemory(t *testing.T) {
	for _, m := range samples() {
		a, b, motif := spare(m.a, true), spare(m.b, true), spare(m.motif, true)
		was := memory(a, b, motif)
		woven, _ := double.Weave(a, b, motif)
		face, _ := double.Face(a, b, motif)
		back, _ := double.Back(a)
		tube, _ := double.Tube(a)
		for _, g := range []api.Grid{woven, face, back, tube} {
			spoil(g)
		}
		if !slices.Equal(memory(a, b, motif), was) {
			t.Fatalf("a result shares memory with an argument, of%s", show(m.a, m.b, m.motif))
		}
		wantWeave(t, m, doubleOf(m))
		wantFace(t, m, faceOf(m))
		wantBack(t, m.a, backOf(m.a))
		wantTube(t, m.a, tubeOf(m.a))
	}
}

// R2: the three results of Apart share no memory with the cloth, with each
// other, or with those of another call.
func TestResultsOfApartAreNewMemory(t *testing.T) {
	for _, m := range samples() {
		cloth := spare(doubleOf(m), true)
		was := memory(cloth)
		a, b, motif, _ := double.Apart(cloth)
		p, q, r, _ := double.Apart(cloth)
		spoil(a)
		if !grid.Same(b, m.b) || !grid.Same(motif, m.motif) {
			t.Fatalf("a shares memory with b or the motif, of%s", show(m.a, m.b, m.motif))
		}
		spoil(b)
		if !grid.Same(motif, m.motif) {
			t.Fatalf("b shares memory with the motif, of%s", show(m.a, m.b, m.motif))
		}
		spoil(motif)
		if !grid.Same(p, m.a) || !grid.Same(q, m.b) || !grid.Same(r, m.motif) || !slices.Equal(memory(cloth), was) {
			t.Fatalf("results share memory with the argument or with others, of%s", show(m.a, m.b, m.motif))
		}
	}
}

// R2: a call that returns an error has no effect on the ones after it.
func TestNothingIsKept(t *testing.T) {
	for want, l := range invalid() {
		for _, g := range l {
			wantNoWeave(t, three{plain(2, 2), g, plain(3, 3)}, want)
			wantNoFace(t, three{plain(2, 2), plain(2, 2), g}, want)
			wantNotApart(t, g, want)
			wantNoTube(t, g, want)
			wantNoBack(t, g, want)
			wantNoWeave(t, three{plain(2, 2), plain(2, 3), plain(2, 2)}, api.ErrArg)
			wantNoTube(t, plain(33, 1), api.ErrMany)
			TestExamples(t)
			wantBack(t, plain(2, 1), plain(2, 1))
		}
	}
}

// R3: nil and empty cells are alike.
func TestNilAndEmptyCells(t *testing.T) {
	for _, s := range [][2]int{{0, 0}, {1, 0}, {0, 1}, {1, 1}, {2, 2}, {-1, 1}, {64, 64}} {
		for _, bits := range [][]bool{nil, {}, make([]bool, 0, 4)} {
			g := api.Grid{W: s[0], H: s[1], Bits: bits}
			wantNoWeave(t, three{g, g, g}, api.ErrBad)
			wantNoFace(t, three{plain(1, 1), g, plain(1, 1)}, api.ErrBad)
			wantNotApart(t, g, api.ErrBad)
			wantNoBack(t, g, api.ErrBad)
			wantNoTube(t, g, api.ErrBad)
		}
	}
}

// R7: no call panics, and all of them end, whatever their arguments are.
func TestNoPanic(t *testing.T) {
	far := []int{math.MinInt, math.MinInt + 1, -1 << 32, -65, -64, -2, -1, 0, 1, 2, 3, 4, 31, 32, 33, 63, 64, 65, 128, 4096, 1 << 31, 1 << 32, 1<<32 + 2, math.MaxInt - 1, math.MaxInt}
	for _, w := range far {
		for _, h := range far {
			for _, n := range []int{0, 1, 2, 4, 16, 64, 1024, 4096} {
				g := api.Grid{W: w, H: h, Bits: make([]bool, n)}
				turned := api.Grid{W: h, H: w, Bits: g.Bits}
				double.Apart(g)
				double.Back(g)
				double.Tube(g)
				for _, m := range []three{{g, g, g}, {g, turned, g}, {turned, g, g}, {g, g, turned}, {plain(2, 2), g, g}, {plain(2, 2), plain(2, 2), g}} {
					double.Weave(m.a, m.b, m.motif)
					double.Face(m.a, m.b, m.motif)
				}
			}
		}
	}
}
