package colour_test

import (
	"math"
	"slices"
	"strings"
	"testing"

	"raddle/api"
	"raddle/colour"
	"raddle/grid"
)

// letters has the letters of the colours in their order.
const letters = "abcdefghijklmnop"

// cloth is a grid with thread colours.
type cloth struct {
	g          api.Grid
	warp, weft []int
}

// read returns the grid with a text.
func read(t *testing.T, s string) api.Grid {
	t.Helper()
	g, e := grid.Parse(s)
	if e != api.OK {
		t.Fatalf("Parse(%q): %d", s, e)
	}
	return g
}

// textOf returns the text of an image, by the definition.
func textOf(m api.Image) string {
	s := ""
	for row := range slices.Chunk(m.C, m.W) {
		line := ""
		for _, c := range row {
			line += letters[c : c+1]
		}
		s = line + "\n" + s
	}
	return s
}

// isText reports whether an image has a text, by the definition.
func isText(s string) bool {
	lines := strings.Split(s, "\n")
	last := len(lines) - 1
	if lines[last] != "" || last < 1 || last > 64 {
		return false
	}
	for _, line := range lines[:last] {
		if len(line) != len(lines[0]) || len(line) < 1 || len(line) > 64 || strings.Trim(line, letters) != "" {
			return false
		}
	}
	return true
}

// imageOf returns the image with a text, by the definition.
func imageOf(s string) api.Image {
	lines := strings.Split(strings.TrimSuffix(s, "\n"), "\n")
	slices.Reverse(lines)
	m := api.Image{W: len(lines[0]), H: len(lines)}
	for _, letter := range strings.Join(lines, "") {
		m.C = append(m.C, strings.IndexRune(letters, letter))
	}
	return m
}

// buildGrid returns the grid with these sides and cells.
func buildGrid(w, h int, up func(x, y int) bool) api.Grid {
	g := api.Grid{W: w, H: h}
	for y := range h {
		for x := range w {
			g.Bits = append(g.Bits, up(x, y))
		}
	}
	return g
}

// blank returns the grid whose cells are all up, or all down.
func blank(w, h int, isUp bool) api.Grid {
	return buildGrid(w, h, func(int, int) bool { return isUp })
}

// random returns a grid whose cells follow no rule.
func random(w, h int, seed uint32) api.Grid {
	return buildGrid(w, h, func(int, int) bool {
		seed = seed*1664525 + 1013904223
		return seed>>31 == 1
	})
}

// allGrids returns all grids with these sides.
func allGrids(w, h int) []api.Grid {
	var l []api.Grid
	for v := range 1 << (w * h) {
		l = append(l, buildGrid(w, h, func(x, y int) bool { return v>>(y*w+x)&1 == 1 }))
	}
	return l
}

// allLists returns all lists of n of some colours.
func allLists(n int, of ...int) [][]int {
	l := [][]int{nil}
	for range n {
		var longer [][]int
		for _, list := range l {
			for _, c := range of {
				longer = append(longer, append(slices.Clone(list), c))
			}
		}
		l = longer
	}
	return l
}

// someLists returns lists of n colours of many kinds, all different ones among
// them if there are as many.
func someLists(n int) [][]int {
	up, down, mixed, two := make([]int, n), make([]int, n), make([]int, n), make([]int, n)
	for i := range n {
		up[i], down[i], mixed[i], two[i] = i%16, (15*i+15)%16, (i*i+i/3+5)%16, i%2*15
	}
	return [][]int{make([]int, n), slices.Repeat([]int{15}, n), up, down, mixed, two}
}

// allImages returns all images with these sides of some colours.
func allImages(w, h int, of ...int) []api.Image {
	var l []api.Image
	for _, c := range allLists(w*h, of...) {
		l = append(l, api.Image{W: w, H: h, C: c})
	}
	return l
}

// smallSizes has sides for which all grids and images of few colours are tried.
var smallSizes = [][2]int{{1, 1}, {1, 2}, {2, 1}, {1, 3}, {3, 1}, {2, 2}, {3, 2}, {2, 3}}

// greatSizes has sides for which only some are tried.
var greatSizes = [][2]int{{64, 64}, {1, 64}, {64, 1}, {63, 64}, {64, 63}, {16, 16}, {5, 7}, {8, 4}, {1, 16}, {33, 2}}

// cloths returns all small grids with the thread colours 0, 1 and 15, and some
// great ones.
func cloths() []cloth {
	var l []cloth
	for _, s := range smallSizes {
		for _, g := range allGrids(s[0], s[1]) {
			for _, warp := range allLists(s[0], 0, 1, 15) {
				for _, weft := range allLists(s[1], 0, 1, 15) {
					l = append(l, cloth{g, warp, weft})
				}
			}
		}
	}
	return append(l, greatCloths()...)
}

// greatCloths returns grids with sides of up to MaxSide, with many colours.
func greatCloths() []cloth {
	var l []cloth
	for _, s := range greatSizes {
		for _, g := range []api.Grid{blank(s[0], s[1], true), blank(s[0], s[1], false), random(s[0], s[1], 1), random(s[0], s[1], 2)} {
			for _, warp := range someLists(s[0]) {
				for _, weft := range someLists(s[1]) {
					l = append(l, cloth{g, warp, weft})
				}
			}
		}
	}
	return l
}

// images returns all small images of the colours 0, 1 and 15, and some great ones.
func images() []api.Image {
	var l []api.Image
	for _, s := range smallSizes {
		l = append(l, allImages(s[0], s[1], 0, 1, 15)...)
	}
	return append(l, greatImages()...)
}

// greatImages returns images with sides of up to MaxSide, with many colours.
func greatImages() []api.Image {
	var l []api.Image
	for _, s := range greatSizes {
		for _, c := range someLists(s[0] * s[1]) {
			l = append(l, api.Image{W: s[0], H: s[1], C: c})
		}
	}
	return l
}

// threadsAt returns the colours of the thread on top in a cell of a grid, and of
// the one below it.
func threadsAt(c cloth, x, y int) (top, below int) {
	if c.g.Bits[y*c.g.W+x] {
		return c.warp[x], c.weft[y]
	}
	return c.weft[y], c.warp[x]
}

// frontOf returns the front, by the definition.
func frontOf(c cloth) api.Image {
	m := api.Image{W: c.g.W, H: c.g.H}
	for y := range m.H {
		for x := range m.W {
			top, _ := threadsAt(c, x, y)
			m.C = append(m.C, top)
		}
	}
	return m
}

// backOf returns the back, by the definition.
func backOf(c cloth) api.Image {
	m := api.Image{W: c.g.W, H: c.g.H}
	for y := range m.H {
		for x := m.W - 1; x >= 0; x-- {
			_, below := threadsAt(c, x, y)
			m.C = append(m.C, below)
		}
	}
	return m
}

// isNone reports whether an image is the zero value.
func isNone(m api.Image) bool { return m.W == 0 && m.H == 0 && len(m.C) == 0 }

// isEqual compares images as Same should do.
func isEqual(a, b api.Image) bool { return a.W == b.W && a.H == b.H && slices.Equal(a.C, b.C) }

// wantFront checks the front of a cloth.
func wantFront(t *testing.T, c cloth, want api.Image) {
	t.Helper()
	if m, e := colour.Front(c.g, c.warp, c.weft); !isEqual(m, want) || e != api.OK {
		t.Fatalf("Front of %v: %v, %d, want %v", c, m, e, want)
	}
}

// wantBack checks the back of a cloth.
func wantBack(t *testing.T, c cloth, want api.Image) {
	t.Helper()
	if m, e := colour.Back(c.g, c.warp, c.weft); !isEqual(m, want) || e != api.OK {
		t.Fatalf("Back of %v: %v, %d, want %v", c, m, e, want)
	}
}

// wantNoView checks that there is neither a front nor a back.
func wantNoView(t *testing.T, c cloth, want api.Errno) {
	t.Helper()
	if m, e := colour.Front(c.g, c.warp, c.weft); !isNone(m) || e != want {
		t.Fatalf("Front of %v: %v, %d, want %d", c, m, e, want)
	}
	if m, e := colour.Back(c.g, c.warp, c.weft); !isNone(m) || e != want {
		t.Fatalf("Back of %v: %v, %d, want %d", c, m, e, want)
	}
}

// wantEqual checks the grid of the threads with the same colours.
func wantEqual(t *testing.T, warp, weft []int, want api.Grid) {
	t.Helper()
	if g, e := colour.Equal(warp, weft); !grid.Same(g, want) || e != api.OK {
		t.Fatalf("Equal of %v, %v: %v, %d, want %v", warp, weft, g, e, want)
	}
}

// wantNoEqual checks that there is no grid of threads with the same colours.
func wantNoEqual(t *testing.T, warp, weft []int, want api.Errno) {
	t.Helper()
	if g, e := colour.Equal(warp, weft); !grid.Same(g, api.Grid{}) || e != want {
		t.Fatalf("Equal of %v, %v: %v, %d, want %d", warp, weft, g, e, want)
	}
}

// wantCounts checks how many cells have each colour.
func wantCounts(t *testing.T, m api.Image, want []int) {
	t.Helper()
	if n, e := colour.Counts(m); !slices.Equal(n, want) || e != api.OK {
		t.Fatalf("Counts of %v: %v, %d, want %v", m, n, e, want)
	}
}

// wantTurn checks the image with ends and picks exchanged.
func wantTurn(t *testing.T, m, want api.Image) {
	t.Helper()
	if turned, e := colour.Turn(m); !isEqual(turned, want) || e != api.OK {
		t.Fatalf("Turn of %v: %v, %d, want %v", m, turned, e, want)
	}
}

// wantText checks the text of an image, and the image with this text.
func wantText(t *testing.T, m api.Image, want string) {
	t.Helper()
	if s, e := colour.Text(m); s != want || e != api.OK {
		t.Fatalf("Text of %v: %q, %d, want %q", m, s, e, want)
	}
	if p, e := colour.Parse(want); !isEqual(p, m) || e != api.OK {
		t.Fatalf("Parse of %q: %v, %d, want %v", want, p, e, m)
	}
}

// wantNoParse checks that there is no image with a text.
func wantNoParse(t *testing.T, s string) {
	t.Helper()
	if m, e := colour.Parse(s); !isNone(m) || e != api.ErrForm {
		t.Fatalf("Parse of %q: %v, %d, want %d", s, m, e, api.ErrForm)
	}
}

// wantInvalid checks that no function has a result for an image.
func wantInvalid(t *testing.T, m api.Image) {
	t.Helper()
	if e := colour.Check(m); e != api.ErrBad {
		t.Fatalf("Check of %v: %d", m, e)
	}
	if n, e := colour.Counts(m); len(n) != 0 || e != api.ErrBad {
		t.Fatalf("Counts of %v: %v, %d", m, n, e)
	}
	if turned, e := colour.Turn(m); !isNone(turned) || e != api.ErrBad {
		t.Fatalf("Turn of %v: %v, %d", m, turned, e)
	}
	if s, e := colour.Text(m); s != "" || e != api.ErrBad {
		t.Fatalf("Text of %v: %q, %d", m, s, e)
	}
}

func TestExamples(t *testing.T) {
	g := read(t, ".x\nx.\n")
	across, along := cloth{g, []int{0, 1}, []int{0, 1}}, cloth{g, []int{0, 1}, []int{1, 0}}
	wantFront(t, across, api.Image{W: 2, H: 2, C: []int{0, 0, 1, 1}})
	wantFront(t, along, api.Image{W: 2, H: 2, C: []int{0, 1, 0, 1}})
}

// P14.1: images of one cell, of one column and of one row, up to MaxSide.
func TestCheck(t *testing.T) {
	for _, m := range images() {
		if e := colour.Check(m); e != api.OK {
			t.Fatalf("Check of %v: %d", m, e)
		}
	}
	for c := range 16 {
		for _, s := range greatSizes {
			if e := colour.Check(api.Image{W: s[0], H: s[1], C: slices.Repeat([]int{c}, s[0]*s[1])}); e != api.OK {
				t.Fatalf("Check of %d by %d of %d: %d", s[0], s[1], c, e)
			}
		}
	}
}

// P14.1: sides of 0, negative and too great ones, and too few or too many colours.
func TestSidesOfImages(t *testing.T) {
	for _, m := range []api.Image{
		{}, {C: []int{0}}, {W: 1}, {H: 1}, {W: 1, C: []int{0}}, {H: 1, C: []int{0}}, {W: 1, H: 1}, {W: 1, H: 1, C: []int{0, 0}},
		{W: -1, H: -1, C: []int{0}}, {W: -2, H: 2, C: []int{0, 0, 0, 0}}, {W: 2, H: -2, C: []int{0, 0, 0, 0}}, {W: -2, H: -2, C: []int{0, 0, 0, 0}}, {W: -3, H: -2, C: make([]int, 6)},
		{W: 2, H: 3, C: make([]int, 5)}, {W: 2, H: 3, C: make([]int, 7)}, {W: 2, H: 3}, {W: 3, H: 3, C: make([]int, 6)},
		{W: 65, H: 1, C: make([]int, 65)}, {W: 1, H: 65, C: make([]int, 65)}, {W: 65, H: 65, C: make([]int, 65*65)}, {W: 65, H: 64, C: make([]int, 65*64)}, {W: 64, H: 65, C: make([]int, 65*64)},
		{W: 0, H: 64, C: make([]int, 64)}, {W: 64, H: 0}, {W: 65, H: 0}, {W: 0, H: 65}, {W: -1, H: 65}, {W: 128, H: 2, C: make([]int, 256)}, {W: 4096, H: 1, C: make([]int, 4096)},
		{W: 64, H: 64, C: make([]int, 64*64-1)}, {W: 64, H: 64, C: make([]int, 64*64+1)}, {W: 64, H: 1, C: make([]int, 63)}, {W: 1, H: 64, C: make([]int, 65)},
		{W: math.MinInt, H: math.MinInt}, {W: math.MaxInt, H: math.MaxInt, C: []int{0}}, {W: 1 << 32, H: 1 << 32}, {W: 1<<32 + 1, H: 1<<32 + 1, C: make([]int, 1)}, {W: math.MinInt, H: 2},
	} {
		wantInvalid(t, m)
	}
}

// strange has numbers that are no colours.
var strange = []int{-1, 16, 17, -15, 32, 255, 256, 1 << 32, -1 << 32, math.MinInt, math.MaxInt}

// P14.1: one element that is no colour, wherever it is, and all of them.
func TestColoursOfImages(t *testing.T) {
	for _, s := range [][2]int{{1, 1}, {1, 2}, {2, 1}, {3, 4}, {8, 8}, {1, 64}, {64, 1}} {
		for _, c := range strange {
			for i := range s[0] * s[1] {
				for _, l := range someLists(s[0] * s[1]) {
					l[i] = c
					wantInvalid(t, api.Image{W: s[0], H: s[1], C: l})
				}
			}
			wantInvalid(t, api.Image{W: s[0], H: s[1], C: slices.Repeat([]int{c}, s[0]*s[1])})
		}
	}
	for _, i := range []int{0, 1, 63, 64, 2048, 4094, 4095} {
		for _, c := range strange {
			l := make([]int, 4096)
			l[i] = c
			wantInvalid(t, api.Image{W: 64, H: 64, C: l})
		}
	}
}

// P14.1: the colour of the end for cells that are up, that of the pick for those
// that are down; the back from right to left, with the other thread.
func TestSomeFrontsAndBacks(t *testing.T) {
	for _, c := range []struct {
		grid, front, back string
		warp, weft        []int
	}{
		{"x\n", "d\n", "h\n", []int{3}, []int{7}},
		{".\n", "h\n", "d\n", []int{3}, []int{7}},
		{"x\n", "a\n", "p\n", []int{0}, []int{15}},
		{".\n", "p\n", "a\n", []int{0}, []int{15}},
		{"xx\n", "ab\n", "cc\n", []int{0, 1}, []int{2}},
		{"..\n", "cc\n", "ba\n", []int{0, 1}, []int{2}},
		{"x.\n", "ac\n", "bc\n", []int{0, 1}, []int{2}},
		{".x\n", "cb\n", "ca\n", []int{0, 1}, []int{2}},
		{"x\nx\n", "a\na\n", "c\nb\n", []int{0}, []int{1, 2}},
		{".\n.\n", "c\nb\n", "a\na\n", []int{0}, []int{1, 2}},
		{"x\n.\n", "a\nb\n", "c\na\n", []int{0}, []int{1, 2}},
		{".\nx\n", "c\na\n", "a\nb\n", []int{0}, []int{1, 2}},
		{".xx\nx..\n", "ebc\nadd\n", "eea\ncbd\n", []int{0, 1, 2}, []int{3, 4}},
		{"x..\n.x.\n..x\n", "aff\nebe\nddc\n", "cbf\ncea\ndba\n", []int{0, 1, 2}, []int{3, 4, 5}},
		{"xx.\n...\n", "npb\nggg\n", "obb\nopn\n", []int{13, 15, 14}, []int{6, 1}},
		{"xx.\n.x.\n", "aaa\naaa\n", "aaa\naaa\n", []int{0, 0, 0}, []int{0, 0}},
		{"xx.\n.x.\n", "aab\nbab\n", "abb\naba\n", []int{0, 0, 0}, []int{1, 1}},
	} {
		of := cloth{read(t, c.grid), c.warp, c.weft}
		wantFront(t, of, imageOf(c.front))
		wantBack(t, of, imageOf(c.back))
	}
}

// P14.1: all small cloths, and great ones.
func TestFrontAndBack(t *testing.T) {
	mirrored, differ := 0, 0
	for _, c := range cloths() {
		front, back := frontOf(c), backOf(c)
		wantFront(t, c, front)
		wantBack(t, c, back)
		if isEqual(front, back) {
			mirrored++
		} else {
			differ++
		}
	}
	if mirrored < 100 || differ < 1000 {
		t.Errorf("%d backs are like the front, and %d are not", mirrored, differ)
	}
}

// P14.1: too few and too many colours of ends, of picks and of both.
func TestNumbersOfColours(t *testing.T) {
	for _, s := range append(greatSizes, smallSizes...) {
		g := random(s[0], s[1], 3)
		for _, ends := range []int{0, 1, s[0] - 1, s[0], s[0] + 1, s[1], 64, 65, 400} {
			for _, picks := range []int{0, 1, s[1] - 1, s[1], s[1] + 1, s[0], 64, 65, 400} {
				c := cloth{g, make([]int, ends), make([]int, picks)}
				if ends == s[0] && picks == s[1] {
					wantFront(t, c, frontOf(c))
				} else {
					wantNoView(t, c, api.ErrCount)
				}
			}
		}
	}
}

// P14.1: one colour among many that is none, of an end or of a pick, whether it
// is seen or not.
func TestColoursThatAreNone(t *testing.T) {
	for _, s := range append(greatSizes, smallSizes...) {
		for _, g := range []api.Grid{blank(s[0], s[1], true), blank(s[0], s[1], false), random(s[0], s[1], 4)} {
			for _, no := range strange {
				for i := range s[0] {
					warp := make([]int, s[0])
					warp[i] = no
					wantNoView(t, cloth{g, warp, make([]int, s[1])}, api.ErrBad)
				}
				for i := range s[1] {
					weft := make([]int, s[1])
					weft[i] = no
					wantNoView(t, cloth{g, make([]int, s[0]), weft}, api.ErrBad)
				}
			}
		}
	}
}

// equalOf returns the grid of ends and picks with the same colour, by the
// definition.
func equalOf(warp, weft []int) api.Grid {
	return buildGrid(len(warp), len(weft), func(x, y int) bool { return warp[x] == weft[y] })
}

// P14.2
func TestSomeEqual(t *testing.T) {
	for _, c := range []struct {
		warp, weft []int
		want       string
	}{
		{[]int{0}, []int{0}, "x\n"},
		{[]int{15}, []int{15}, "x\n"},
		{[]int{0}, []int{15}, ".\n"},
		{[]int{1, 2, 3}, []int{2}, ".x.\n"},
		{[]int{2}, []int{1, 2, 3}, ".\nx\n.\n"},
		{[]int{1}, []int{1, 2, 3}, ".\n.\nx\n"},
		{[]int{0, 1, 2}, []int{0, 1}, ".x.\nx..\n"},
		{[]int{0, 1}, []int{0, 1, 2}, "..\n.x\nx.\n"},
		{[]int{4, 4, 5}, []int{5, 4}, "xx.\n..x\n"},
	} {
		wantEqual(t, c.warp, c.weft, read(t, c.want))
	}
}

// P14.2: lists with one element, up to MaxSide ones, of all colours.
func TestEqual(t *testing.T) {
	for _, s := range smallSizes {
		for _, warp := range allLists(s[0], 0, 1, 15) {
			for _, weft := range allLists(s[1], 0, 1, 15) {
				wantEqual(t, warp, weft, equalOf(warp, weft))
			}
		}
	}
	for _, s := range greatSizes {
		for _, warp := range someLists(s[0]) {
			for _, weft := range someLists(s[1]) {
				wantEqual(t, warp, weft, equalOf(warp, weft))
			}
		}
	}
	for a := range 16 {
		for b := range 16 {
			wantEqual(t, []int{a}, []int{b}, blank(1, 1, a == b))
		}
	}
}

// P14.2: lists with no element, and with more than MaxSide ones.
func TestLengthsOfLists(t *testing.T) {
	for _, n := range []int{0, 1, 2, 63, 64, 65, 66, 128, 400, 5000} {
		for _, k := range []int{0, 1, 2, 63, 64, 65, 66, 128, 400, 5000} {
			warp, weft := make([]int, n), slices.Repeat([]int{15}, k)
			if n < 1 || n > 64 || k < 1 || k > 64 {
				wantNoEqual(t, warp, weft, api.ErrCount)
			} else {
				wantEqual(t, warp, weft, blank(n, k, false))
			}
		}
	}
}

// P14.2: one colour among many that is none.
func TestListsWithNoColour(t *testing.T) {
	for _, n := range []int{1, 2, 5, 64} {
		for i := range n {
			for _, no := range strange {
				for _, k := range []int{1, 2, 64} {
					l := make([]int, n)
					l[i] = no
					wantNoEqual(t, l, make([]int, k), api.ErrBad)
					wantNoEqual(t, make([]int, k), l, api.ErrBad)
					wantNoEqual(t, l, l, api.ErrBad)
				}
			}
		}
	}
}

// P14.2
func TestSomeCounts(t *testing.T) {
	for s, want := range map[string][]int{
		"a\n":                  {1, 0, 0, 0, 0, 0, 0, 0, 0, 0, 0, 0, 0, 0, 0, 0},
		"p\n":                  {0, 0, 0, 0, 0, 0, 0, 0, 0, 0, 0, 0, 0, 0, 0, 1},
		"ab\nba\nbb\n":         {2, 4, 0, 0, 0, 0, 0, 0, 0, 0, 0, 0, 0, 0, 0, 0},
		"abcdefgh\nijklmnop\n": {1, 1, 1, 1, 1, 1, 1, 1, 1, 1, 1, 1, 1, 1, 1, 1},
		"pgo\npgp\n":           {0, 0, 0, 0, 0, 0, 2, 0, 0, 0, 0, 0, 0, 0, 1, 3},
	} {
		wantCounts(t, imageOf(s), want)
	}
}

// P14.2: all small images, and great ones.
func TestCounts(t *testing.T) {
	for _, m := range images() {
		text, sum := textOf(m), 0
		want := make([]int, 16)
		for c := range want {
			want[c] = strings.Count(text, letters[c:c+1])
			sum += want[c]
		}
		wantCounts(t, m, want)
		if sum != m.W*m.H {
			t.Fatalf("%d cells of %v have a colour", sum, m)
		}
	}
}

// P14.2
func TestSomeTurned(t *testing.T) {
	for s, want := range map[string]string{
		"a\n": "a\n", "ab\n": "b\na\n", "a\nb\n": "ba\n", "ab\ncd\n": "db\nca\n", "abc\ndef\n": "fc\neb\nda\n", "ab\ncd\nef\n": "fdb\neca\n",
	} {
		wantTurn(t, imageOf(s), imageOf(want))
	}
}

// P14.2: the cell (x, y) is the cell (y, x); turned twice, the image is itself.
func TestTurn(t *testing.T) {
	for _, m := range images() {
		want := api.Image{W: m.H, H: m.W}
		for y := range want.H {
			for x := range want.W {
				want.C = append(want.C, m.C[x*m.W+y])
			}
		}
		wantTurn(t, m, want)
		wantTurn(t, want, m)
	}
}

// P14.3: the last row first, a letter for each of the 16 colours.
func TestSomeTexts(t *testing.T) {
	wantText(t, api.Image{W: 1, H: 1, C: []int{0}}, "a\n")
	wantText(t, api.Image{W: 3, H: 2, C: []int{0, 1, 2, 13, 14, 15}}, "nop\nabc\n")
	wantText(t, api.Image{W: 2, H: 3, C: []int{0, 1, 2, 13, 14, 15}}, "op\ncn\nab\n")
	wantText(t, api.Image{W: 16, H: 1, C: []int{0, 1, 2, 3, 4, 5, 6, 7, 8, 9, 10, 11, 12, 13, 14, 15}}, letters+"\n")
	wantText(t, api.Image{W: 1, H: 3, C: []int{0, 1, 2}}, "c\nb\na\n")
	for c := range 16 {
		wantText(t, api.Image{W: 1, H: 1, C: []int{c}}, letters[c:c+1]+"\n")
	}
}

// P14.3 and P14.4: all small images and great ones, and Parse of Text.
func TestTextAndParse(t *testing.T) {
	for _, m := range images() {
		wantText(t, m, textOf(m))
	}
}

// P14.3: all small texts of some bytes have the one image that has them, or none.
func TestAllSmallTexts(t *testing.T) {
	found, none := 0, 0
	texts := []string{""}
	for range 7 {
		var longer []string
		for _, s := range texts {
			for _, b := range []string{"\n", "a", "p", "`", "q"} {
				longer = append(longer, s+b)
			}
		}
		for _, s := range longer {
			if isText(s) {
				found++
				wantText(t, imageOf(s), s)
			} else {
				none++
				wantNoParse(t, s)
			}
		}
		texts = longer
	}
	wantNoParse(t, "")
	if found < 50 || none < 90000 {
		t.Errorf("%d texts have an image, and %d have none", found, none)
	}
}

// P14.3: each byte, and letters that are more than one.
func TestLetters(t *testing.T) {
	for v := range 256 {
		b := string([]byte{byte(v)})
		for _, s := range []string{b + "\n", "a" + b + "\n", b + "p\n", "aa\na" + b + "\naa\n", "ab\n" + b + "b\n"} {
			if v >= 'a' && v <= 'p' {
				wantText(t, imageOf(s), s)
			} else if b == "\n" {
				continue
			} else {
				wantNoParse(t, s)
			}
		}
	}
	for _, s := range []string{"A\n", "aP\n", "a \n", " a\n", "a\t\n", "á\n", "š\n", "ａ\n", "a\u0300\n", "\U00010061\n", "a\r\n", "a\x00\n", "\ufeffa\n", "0\n", "12\n", "x.\n", "\xffa\n"} {
		wantNoParse(t, s)
	}
}

// P14.3: no line feed at the end, more than one, lines of different lengths, no
// line, and an empty one.
func TestLines(t *testing.T) {
	for _, s := range []string{
		"", "\n", "\n\n", "a", "ab", "ab\ncd", "ab\ncd\n\n", "\nab\ncd\n", "ab\n\ncd\n", "ab\nc\n", "a\ncd\n", "abc\nde\nf\n", "a\nb\ncc\n", "aa\nb\nc\n",
		"ab\ncd\ne", "ab\ncd\nef\ng", "ab\ncd\nefg\n", "abc\nd\nefg\n", "a\nabc\na\n", "abc\nabcdabc\n", "a\n\n", "a\n\na\n", "ab\rcd\n", "ab\r\ncd\r\n", "ab;cd\n",
	} {
		if isText(s) {
			t.Fatalf("%q is a text", s)
		}
		wantNoParse(t, s)
	}
}

// P14.3: as many lines and columns as MaxSide, and one more.
func TestGreatTexts(t *testing.T) {
	for _, w := range []int{1, 2, 63, 64, 65, 66, 129, 5000} {
		for _, h := range []int{1, 2, 63, 64, 65, 66, 129, 5000} {
			s := strings.Repeat(strings.Repeat("p", w)+"\n", h)
			if w <= 64 && h <= 64 {
				wantText(t, api.Image{W: w, H: h, C: slices.Repeat([]int{15}, w*h)}, s)
			} else {
				wantNoParse(t, s)
			}
		}
	}
}

// P14.3: one byte of a great text left out, put in, or changed.
func TestChangedTexts(t *testing.T) {
	for _, m := range greatImages() {
		s := textOf(m)
		for _, i := range []int{0, 1, m.W - 1, m.W, len(s) / 2, len(s) - m.W - 1, len(s) - 2, len(s) - 1} {
			for _, b := range []string{"", "\n", "a", "p", "q", "`", "aa", "\n\n", "a\n", "\na"} {
				for _, text := range []string{s[:i] + b + s[i+1:], s[:i] + b + s[i:]} {
					if isText(text) {
						wantText(t, imageOf(text), text)
					} else {
						wantNoParse(t, text)
					}
				}
			}
		}
	}
}

// P14.3: Same accepts any images.
func TestSame(t *testing.T) {
	one, two := []int{0, 1}, []int{1, 1}
	for _, k := range []struct {
		a, b api.Image
		want bool
	}{
		{api.Image{}, api.Image{}, true},
		{api.Image{}, api.Image{C: []int{}}, true},
		{api.Image{W: -1, H: 99}, api.Image{W: -1, H: 99, C: []int{}}, true},
		{api.Image{W: 9, H: 9, C: one}, api.Image{W: 9, H: 9, C: []int{0, 1}}, true},
		{api.Image{W: 2, H: 1, C: []int{-5, 99}}, api.Image{W: 2, H: 1, C: []int{-5, 99}}, true},
		{api.Image{W: 2, H: 1, C: []int{-5, 99}}, api.Image{W: 2, H: 1, C: []int{-5, 98}}, false},
		{api.Image{W: 2, H: 1, C: one}, api.Image{W: 2, H: 1, C: []int{0, 1}}, true},
		{api.Image{W: 2, H: 1, C: one}, api.Image{W: 2, H: 1, C: two}, false},
		{api.Image{W: 2, H: 1, C: two}, api.Image{W: 1, H: 2, C: two}, false},
		{api.Image{W: 2, H: 1, C: two}, api.Image{W: 2, H: 2, C: two}, false},
		{api.Image{W: 2, H: 1, C: two}, api.Image{W: 1, H: 1, C: two}, false},
		{api.Image{W: 2, H: 1, C: one}, api.Image{W: 2, H: 1, C: one[:1]}, false},
		{api.Image{W: 2, H: 1}, api.Image{W: 2, H: 1, C: []int{0, 0}}, false},
		{api.Image{W: 1}, api.Image{}, false},
		{api.Image{H: 1}, api.Image{}, false},
		{api.Image{W: 65, H: 65}, api.Image{W: 65, H: 64}, false},
	} {
		if colour.Same(k.a, k.b) != k.want || colour.Same(k.b, k.a) != k.want {
			t.Errorf("Same of %v and %v: not %v", k.a, k.b, k.want)
		}
	}
}

// P14.3: all pairs of small images, and great ones with a cell that is changed.
func TestSameOfAllImages(t *testing.T) {
	var l []api.Image
	for _, s := range smallSizes {
		l = append(l, allImages(s[0], s[1], 0, 15)...)
	}
	for i, a := range l {
		for k, b := range l {
			if colour.Same(a, b) != (i == k) {
				t.Fatalf("Same of %v and %v: not %v", a, b, i == k)
			}
		}
	}
	for _, m := range greatImages() {
		for i := range m.C {
			n := api.Image{W: m.W, H: m.H, C: slices.Clone(m.C)}
			if !colour.Same(m, n) {
				t.Fatalf("%v is not the same", m)
			}
			n.C[i] = (n.C[i] + 1) % 16
			if colour.Same(m, n) {
				t.Fatalf("%v and %v are the same", m, n)
			}
		}
	}
}

// views returns the front and the back of a cloth.
func views(t *testing.T, c cloth) (front, back api.Image) {
	t.Helper()
	front, e := colour.Front(c.g, c.warp, c.weft)
	back, f := colour.Back(c.g, c.warp, c.weft)
	if e != api.OK || f != api.OK {
		t.Fatalf("Front and Back of %v: %d, %d", c, e, f)
	}
	return front, back
}

// P14.4: each cell of the front shows the thread on top, and the back the other
// one; together they have each end as often as there are picks, and each pick as
// often as there are ends.
func TestBothThreadsAreSeen(t *testing.T) {
	for _, c := range cloths() {
		front, back := views(t, c)
		for y := range c.g.H {
			for x := range c.g.W {
				top, below := threadsAt(c, x, y)
				if front.C[y*c.g.W+x] != top || back.C[y*c.g.W+c.g.W-1-x] != below {
					t.Fatalf("the cell (%d, %d) of %v: front %v, back %v", x, y, c, front, back)
				}
			}
		}
		onFront, _ := colour.Counts(front)
		onBack, _ := colour.Counts(back)
		want := make([]int, 16)
		for _, end := range c.warp {
			want[end] += c.g.H
		}
		for _, pick := range c.weft {
			want[pick] += c.g.W
		}
		for i := range want {
			want[i] -= onFront[i] + onBack[i]
		}
		if slices.ContainsFunc(want, func(n int) bool { return n != 0 }) {
			t.Fatalf("the colours of %v: front %v, back %v", c, onFront, onBack)
		}
	}
}

// P14.4: with colours that are all different, the threads themselves are counted.
func TestAllThreadsDiffer(t *testing.T) {
	for w := 1; w <= 15; w++ {
		for h := 1; w+h <= 16; h++ {
			var warp, weft []int
			for i := range w {
				warp = append(warp, i)
			}
			for i := range h {
				weft = append(weft, w+i)
			}
			for seed := range uint32(5) {
				g := random(w, h, seed)
				front, back := views(t, cloth{g, warp, weft})
				for c := range 16 {
					n := strings.Count(textOf(front)+textOf(back), letters[c:c+1])
					if c < w && n != h || c >= w && c < w+h && n != w || c >= w+h && n != 0 {
						t.Fatalf("%d by %d: %d cells have the colour %d", w, h, n, c)
					}
				}
				wantEqual(t, warp, weft, blank(w, h, false))
			}
		}
	}
}

// P14.4: the front of the turned grid, with the colours exchanged, and up and
// down too, is the front, turned.
func TestTurnedFront(t *testing.T) {
	for _, c := range cloths() {
		front, back := views(t, c)
		turned, _ := grid.Turn(c.g)
		opposite, _ := grid.Not(turned)
		same, _ := colour.Turn(front)
		wantFront(t, cloth{opposite, c.weft, c.warp}, same)
		mirrored, _ := grid.Mirror(c.g, 0)
		fromBehind, _ := grid.Not(mirrored)
		warp := slices.Clone(c.warp)
		slices.Reverse(warp)
		wantFront(t, cloth{fromBehind, warp, c.weft}, back)
		wantBack(t, cloth{fromBehind, warp, c.weft}, front)
	}
}

// exchanged returns the front and the back with the colours of one cell of the
// grid exchanged.
func exchanged(front, back api.Image, x, y int) (api.Image, api.Image) {
	i, k := y*front.W+x, y*front.W+front.W-1-x
	front.C, back.C = slices.Clone(front.C), slices.Clone(back.C)
	front.C[i], back.C[k] = back.C[k], front.C[i]
	return front, back
}

// P14.4: where both threads have the same colour, a change of the weave changes
// nothing; elsewhere it changes the cell, and this alone.
func TestChangedWeave(t *testing.T) {
	equal, differ := 0, 0
	for _, s := range append([][2]int{{5, 7}, {8, 4}, {1, 16}, {16, 1}, {12, 12}}, smallSizes...) {
		for _, g := range []api.Grid{blank(s[0], s[1], true), blank(s[0], s[1], false), random(s[0], s[1], 5)} {
			for _, warp := range someLists(s[0]) {
				for _, weft := range someLists(s[1]) {
					front, back := views(t, cloth{g, warp, weft})
					same, _ := colour.Equal(warp, weft)
					for i, isSame := range same.Bits {
						x, y := i%g.W, i/g.W
						changed := buildGrid(g.W, g.H, func(j, k int) bool { return g.Bits[k*g.W+j] != (j == x && k == y) })
						f, b := exchanged(front, back, x, y)
						wantFront(t, cloth{changed, warp, weft}, f)
						wantBack(t, cloth{changed, warp, weft}, b)
						if isEqual(f, front) != isSame || isEqual(b, back) != isSame {
							t.Fatalf("the cell (%d, %d) of %v, %v: %v", x, y, warp, weft, same)
						}
						if isSame {
							equal++
						} else {
							differ++
						}
					}
				}
			}
		}
	}
	if equal < 1000 || differ < 1000 {
		t.Errorf("%d cells have one colour, and %d have two", equal, differ)
	}
}

// P14.4: all cells at once of threads with the same colour.
func TestWeavesThatLookAlike(t *testing.T) {
	for _, c := range greatCloths() {
		front, back := views(t, c)
		same, _ := colour.Equal(c.warp, c.weft)
		for seed := range uint32(2) {
			other := random(c.g.W, c.g.H, seed+6)
			g := buildGrid(c.g.W, c.g.H, func(x, y int) bool {
				i := y*c.g.W + x
				if same.Bits[i] {
					return other.Bits[i]
				}
				return c.g.Bits[i]
			})
			wantFront(t, cloth{g, c.warp, c.weft}, front)
			wantBack(t, cloth{g, c.warp, c.weft}, back)
		}
	}
}
