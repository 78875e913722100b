package colour_test

import (
	"math"
	"slices"
	"strings"
	"testing"

	"raddle/api"
	"raddle/colour"
	"raddle/grid"
)

// invalidGrids returns grids with the errors that grid.Check returns for them.
func invalidGrids() map[api.Errno][]api.Grid {
	bits := func(n int) []bool { return make([]bool, n) }
	return map[api.Errno][]api.Grid{
		api.ErrMany: {
			{W: 65, H: 1, Bits: bits(65)}, {W: 1, H: 65, Bits: bits(65)}, {W: 65}, {W: -1, H: 65}, {W: 65, H: 65, Bits: bits(65 * 65)}, {W: 66, H: 2, Bits: bits(132)},
			{W: math.MaxInt, H: math.MinInt}, {W: math.MinInt, H: math.MaxInt}, {W: math.MaxInt, H: math.MaxInt},
		},
		api.ErrBad: {
			{}, {W: 1}, {H: 1, Bits: bits(1)}, {W: 1, H: 1}, {W: -1, H: -1, Bits: bits(1)}, {W: 2, H: 3}, {W: 2, H: 3, Bits: bits(5)},
			{W: 2, H: 3, Bits: bits(7)}, {W: math.MinInt, H: math.MinInt}, {W: 64, H: 64, Bits: bits(256)}, {W: 0, H: 64, Bits: bits(64)},
			{W: 0, H: 2, Bits: []bool{}}, {W: -2, H: 2, Bits: bits(4)},
		},
	}
}

// invalidImages returns images of which each one is not valid.
func invalidImages() []api.Image {
	l := []api.Image{
		{}, {W: 1}, {H: 1}, {W: 1, H: 1}, {W: 2, H: 2, C: make([]int, 3)}, {W: 2, H: 2, C: make([]int, 5)}, {W: 65, H: 1, C: make([]int, 65)},
		{W: -1, H: -1, C: make([]int, 1)}, {W: 64, H: 65, C: make([]int, 64*65)}, {W: 0, H: 65, C: []int{16}}, {W: math.MinInt, H: math.MaxInt, C: []int{-1}},
	}
	for _, c := range strange {
		l = append(l, api.Image{W: 2, H: 2, C: []int{0, 1, c, 2}}, api.Image{W: 2, H: 3, C: []int{c}}, api.Image{W: 1, H: 1, C: []int{c}})
	}
	return l
}

// listsOfAllKinds returns lists of few and of many numbers that are colours, or
// are none.
func listsOfAllKinds() [][]int {
	l := [][]int{nil, {}, {0}, {15}, {0, 1}, {1, 2, 3}, make([]int, 64), make([]int, 65), make([]int, 400)}
	for _, c := range strange {
		l = append(l, []int{c}, []int{0, c}, []int{c, 1, 2}, append(make([]int, 63), c), append(make([]int, 64), c))
	}
	return l
}

// R1: the grid's error comes before those of colours.
func TestErrorsOfGrids(t *testing.T) {
	for want, grids := range invalidGrids() {
		for _, g := range grids {
			for _, warp := range listsOfAllKinds() {
				for _, weft := range listsOfAllKinds() {
					wantNoView(t, cloth{g, warp, weft}, want)
				}
			}
		}
	}
}

// hasNoColour reports whether one of the numbers of a list is no colour.
func hasNoColour(l []int) bool {
	all := []int{0, 1, 2, 3, 4, 5, 6, 7, 8, 9, 10, 11, 12, 13, 14, 15}
	return slices.ContainsFunc(l, func(c int) bool { return !slices.Contains(all, c) })
}

// R1: the numbers of colours, of ends and of picks, come before a colour that is
// none, of either.
func TestOrderOfErrors(t *testing.T) {
	counts, bads := 0, 0
	for _, s := range [][2]int{{1, 1}, {2, 1}, {1, 2}, {2, 3}, {3, 2}, {64, 64}, {1, 64}, {64, 2}} {
		for _, warp := range listsOfAllKinds() {
			for _, weft := range listsOfAllKinds() {
				c := cloth{random(s[0], s[1], 9), warp, weft}
				switch {
				case len(warp) != s[0] || len(weft) != s[1]:
					wantNoView(t, c, api.ErrCount)
					counts++
				case hasNoColour(warp) || hasNoColour(weft):
					wantNoView(t, c, api.ErrBad)
					bads++
				default:
					wantFront(t, c, frontOf(c))
					wantBack(t, c, backOf(c))
				}
			}
		}
	}
	if counts < 1000 || bads < 100 {
		t.Errorf("%d counts and %d colours are wrong", counts, bads)
	}
}

// R1: the same for Equal.
func TestOrderOfErrorsOfEqual(t *testing.T) {
	for _, warp := range listsOfAllKinds() {
		for _, weft := range listsOfAllKinds() {
			switch {
			case len(warp) < 1 || len(warp) > 64 || len(weft) < 1 || len(weft) > 64:
				wantNoEqual(t, warp, weft, api.ErrCount)
			case hasNoColour(warp) || hasNoColour(weft):
				wantNoEqual(t, warp, weft, api.ErrBad)
			default:
				wantEqual(t, warp, weft, equalOf(warp, weft))
			}
		}
	}
	wantNoEqual(t, []int{16}, nil, api.ErrCount)
	wantNoEqual(t, nil, []int{-1}, api.ErrCount)
	wantNoEqual(t, []int{-1}, make([]int, 65), api.ErrCount)
	wantNoEqual(t, make([]int, 65), []int{16}, api.ErrCount)
}

// R1: images with several faults.
func TestInvalidImages(t *testing.T) {
	for _, m := range invalidImages() {
		wantInvalid(t, m)
	}
}

// spareBits returns a copy of a grid whose memory goes on behind its cells.
func spareBits(g api.Grid, isUp bool) api.Grid {
	g.Bits = append(slices.Clone(g.Bits), slices.Repeat([]bool{isUp}, 70)...)[:len(g.Bits)]
	return g
}

// spare returns a copy of a list whose memory goes on behind it.
func spare(l []int, c int) []int {
	return append(slices.Clone(l), slices.Repeat([]int{c}, 70)...)[:len(l)]
}

// numbers returns a copy of all memory of lists.
func numbers(lists ...[]int) []int {
	var all []int
	for _, l := range lists {
		all = append(append(all, len(l)), l[:cap(l)]...)
	}
	return all
}

// memory returns a copy of all memory of the cells of a grid.
func memory(g api.Grid) []bool {
	return slices.Clone(g.Bits[:cap(g.Bits)])
}

// R2: grids and thread colours stay as they are, with the memory behind them.
func TestClothsStay(t *testing.T) {
	l := greatCloths()
	for _, grids := range append([][]api.Grid{allGrids(2, 2)}, invalidGrids()[api.ErrBad], invalidGrids()[api.ErrMany]) {
		for _, g := range grids {
			l = append(l, cloth{g, []int{0, 1}, []int{1, 2}}, cloth{g, []int{0, 16}, []int{1, 2}}, cloth{g, []int{0, 1}, []int{1, -1}}, cloth{g, []int{0}, nil})
		}
	}
	for _, c := range l {
		for _, v := range []int{0, 15, -1} {
			g, warp, weft := spareBits(c.g, v == 0), spare(c.warp, v), spare(c.weft, v)
			wasBits, was := memory(g), numbers(warp, weft)
			colour.Front(g, warp, weft)
			colour.Back(g, warp, weft)
			colour.Equal(warp, weft)
			colour.Equal(weft, weft)
			if !slices.Equal(memory(g), wasBits) || !slices.Equal(numbers(warp, weft), was) {
				t.Fatalf("an argument was changed, of %v", c)
			}
		}
	}
}

// R2: images stay as they are, with the memory behind them.
func TestImagesStay(t *testing.T) {
	for _, m := range slices.Concat(images(), invalidImages()) {
		for _, v := range []int{0, 15, -1} {
			n := api.Image{W: m.W, H: m.H, C: spare(m.C, v)}
			was := numbers(n.C)
			colour.Check(n)
			colour.Counts(n)
			colour.Turn(n)
			colour.Text(n)
			colour.Same(n, m)
			colour.Same(m, n)
			if !slices.Equal(numbers(n.C), was) {
				t.Fatalf("an argument was changed, of %v", m)
			}
		}
	}
}

// spoil changes all memory of a list.
func spoil(l []int) {
	l = l[:cap(l)]
	for i := range l {
		l[i] = -7
	}
}

// R2: results can be changed without effect on arguments, other results or later
// calls.
func TestViewsAreNewMemory(t *testing.T) {
	for _, c := range cloths() {
		g, warp, weft := spareBits(c.g, true), spare(c.warp, 3), spare(c.weft, 3)
		wasBits, was := memory(g), numbers(warp, weft)
		front, _ := colour.Front(g, warp, weft)
		again, _ := colour.Front(g, warp, weft)
		back, _ := colour.Back(g, warp, weft)
		same, _ := colour.Equal(warp, weft)
		spoil(front.C)
		if !isEqual(again, frontOf(c)) || !isEqual(back, backOf(c)) {
			t.Fatalf("results share memory, of %v", c)
		}
		spoil(back.C)
		clear(same.Bits[:cap(same.Bits)])
		if !isEqual(again, frontOf(c)) || !slices.Equal(memory(g), wasBits) || !slices.Equal(numbers(warp, weft), was) {
			t.Fatalf("a result shares memory with an argument, of %v", c)
		}
		wantFront(t, c, again)
		wantBack(t, c, backOf(c))
		wantEqual(t, c.warp, c.weft, equalOf(c.warp, c.weft))
	}
}

// R2: the same for the results of images and texts.
func TestImagesAreNewMemory(t *testing.T) {
	for _, m := range images() {
		n := api.Image{W: m.W, H: m.H, C: spare(m.C, 3)}
		was := numbers(n.C)
		turned, _ := colour.Turn(n)
		want := api.Image{W: turned.W, H: turned.H, C: slices.Clone(turned.C)}
		counts, _ := colour.Counts(n)
		wantCount := slices.Clone(counts)
		parsed, _ := colour.Parse(textOf(m))
		spoil(turned.C)
		spoil(counts)
		spoil(parsed.C)
		if !slices.Equal(numbers(n.C), was) {
			t.Fatalf("a result shares memory with an argument, of %v", m)
		}
		wantTurn(t, m, want)
		wantCounts(t, m, wantCount)
		wantText(t, m, textOf(m))
	}
}

// R2: a call that returns an error has no effect on the ones after it.
func TestNothingIsKept(t *testing.T) {
	for want, grids := range invalidGrids() {
		for _, g := range grids {
			wantNoView(t, cloth{g, []int{0, 1}, []int{0, 1}}, want)
			wantNoView(t, cloth{random(2, 2, 1), []int{0, 16}, []int{0, 1}}, api.ErrBad)
			wantNoEqual(t, []int{0, 1}, nil, api.ErrCount)
			wantNoParse(t, "ab\na\n")
			TestExamples(t)
		}
	}
	for _, m := range invalidImages() {
		wantInvalid(t, m)
		wantText(t, imageOf("ab\ncd\n"), "ab\ncd\n")
		TestExamples(t)
	}
}

// R3: nil and empty lists are alike.
func TestNilAndEmpty(t *testing.T) {
	for _, empty := range [][]int{nil, {}, make([]int, 0, 4)} {
		for _, s := range [][2]int{{0, 0}, {1, 0}, {0, 1}, {1, 1}, {2, 2}, {-1, 1}, {64, 64}, {65, 65}} {
			m := api.Image{W: s[0], H: s[1], C: empty}
			wantInvalid(t, m)
			if !colour.Same(m, api.Image{W: s[0], H: s[1]}) || !colour.Same(api.Image{W: s[0], H: s[1], C: []int{}}, m) {
				t.Fatalf("%v is not the same", m)
			}
		}
		wantNoEqual(t, empty, []int{0}, api.ErrCount)
		wantNoEqual(t, []int{0}, empty, api.ErrCount)
		wantNoEqual(t, empty, empty, api.ErrCount)
		wantNoView(t, cloth{random(1, 1, 1), empty, []int{0}}, api.ErrCount)
		wantNoView(t, cloth{random(1, 1, 1), []int{0}, empty}, api.ErrCount)
		wantNoView(t, cloth{api.Grid{}, empty, empty}, api.ErrBad)
	}
}

// far has numbers of which sums and products are greater than a number can be.
var far = []int{math.MinInt, math.MinInt + 1, -1 << 32, -65, -64, -2, -1, 0, 1, 2, 4, 15, 16, 32, 63, 64, 65, 97, 128, 4096, 1 << 31, 1 << 32, 1<<32 + 2, math.MaxInt - 1, math.MaxInt}

// R7: no call panics, and all of them end, whatever their arguments are.
func TestNoPanic(t *testing.T) {
	for _, w := range far {
		for _, h := range far {
			for _, n := range []int{0, 1, 2, 4, 64, 65, 4096} {
				g := api.Grid{W: w, H: h, Bits: make([]bool, n)}
				for _, c := range []int{0, 15, 16, -1, w, h} {
					l := slices.Repeat([]int{c}, n)
					m := api.Image{W: w, H: h, C: l}
					colour.Check(m)
					colour.Counts(m)
					colour.Turn(m)
					colour.Text(m)
					colour.Same(m, api.Image{W: h, H: w, C: l})
					colour.Equal(l, []int{w, h})
					colour.Equal([]int{w, h}, l)
					colour.Front(g, l, []int{w, h})
					colour.Back(g, []int{w, h}, l)
					colour.Front(random(2, 2, 1), []int{w, h}, []int{h, w})
					colour.Back(random(2, 2, 1), []int{w, h}, []int{h, w})
					colour.Text(api.Image{W: 2, H: 1, C: []int{w, h}})
				}
			}
		}
	}
}

// R7: the same for texts, great ones too.
func TestNoPanicOfTexts(t *testing.T) {
	for _, n := range []int{0, 1, 2, 63, 64, 65, 4160, 4161, 100000} {
		for _, s := range []string{"\n", "a", "a\n", "\na", "aa\n", "\x00", "\xff\n", "š\n", "q\n", strings.Repeat("a", 64) + "\n", strings.Repeat("p", 65) + "\n"} {
			text := strings.Repeat(s, n)
			for _, l := range []string{text, "a" + text, text + "a", "a\n" + text, text + "\n"} {
				if isText(l) {
					wantText(t, imageOf(l), l)
				} else if m, e := colour.Parse(l); !isNone(m) || e != api.ErrForm {
					t.Fatalf("Parse of a text of %d bytes: %v, %d", len(l), m, e)
				}
			}
		}
	}
}

// R2: the same call has the same result.
func TestSameCallsAgain(t *testing.T) {
	for _, c := range greatCloths() {
		f, b := views(t, c)
		again, behind := views(t, c)
		if !isEqual(f, again) || !isEqual(b, behind) {
			t.Fatalf("Front or Back of %v changes", c)
		}
		g, _ := colour.Equal(c.warp, c.weft)
		if h, _ := colour.Equal(c.warp, c.weft); !grid.Same(g, h) {
			t.Fatalf("Equal of %v changes", c)
		}
	}
}
