package picture_test

import (
	"slices"
	"strings"
	"testing"

	"raddle/api"
	"raddle/colour"
	"raddle/grid"
	"raddle/picture"
)

// dyed is an image with thread colours.
type dyed struct {
	m          api.Image
	warp, weft []int
}

// kind is what a cell is.
type kind int

const (
	impossible kind = iota
	forcedUp
	forcedDown
	open
)

// smallSizes has sides for which all images of few colours are tried.
var smallSizes = [][2]int{{1, 1}, {1, 2}, {2, 1}, {1, 3}, {3, 1}, {2, 2}, {3, 2}, {2, 3}}

// greatSizes has sides for which only some are tried.
var greatSizes = [][2]int{{64, 64}, {1, 64}, {64, 1}, {63, 64}, {64, 63}, {16, 16}, {5, 7}, {8, 4}, {1, 16}, {33, 2}}

// read returns the grid with a text.
func read(t *testing.T, s string) api.Grid {
	t.Helper()
	g, e := grid.Parse(s)
	if e != api.OK {
		t.Fatalf("Parse(%q): %d", s, e)
	}
	return g
}

// readImage returns the image with a text.
func readImage(t *testing.T, s string) api.Image {
	t.Helper()
	m, e := colour.Parse(s)
	if e != api.OK {
		t.Fatalf("Parse(%q): %d", s, e)
	}
	return m
}

// build returns the image with these sides and colours.
func build(w, h int, at func(x, y int) int) api.Image {
	m := api.Image{W: w, H: h}
	for y := range h {
		for x := range w {
			m.C = append(m.C, at(x, y))
		}
	}
	return m
}

// plain returns the image of one colour.
func plain(w, h, c int) api.Image {
	return build(w, h, func(int, int) int { return c })
}

// buildGrid returns the grid with these sides and cells.
func buildGrid(w, h int, up func(x, y int) bool) api.Grid {
	g := api.Grid{W: w, H: h}
	for y := range h {
		for x := range w {
			g.Bits = append(g.Bits, up(x, y))
		}
	}
	return g
}

// blank returns the grid whose cells are all up, or all down.
func blank(w, h int, isUp bool) api.Grid {
	return buildGrid(w, h, func(int, int) bool { return isUp })
}

// dice returns a function whose numbers, all less than n, follow no rule.
func dice(seed uint32) func(n int) int {
	seed = seed*2654435761 + 12345
	return func(n int) int {
		seed = seed*1664525 + 1013904223
		return int(seed>>16) % n
	}
}

// random returns a grid whose cells follow no rule.
func random(w, h int, seed uint32) api.Grid {
	roll := dice(seed)
	return buildGrid(w, h, func(int, int) bool { return roll(2) == 1 })
}

// someColours returns n of the first colours, which follow no rule.
func someColours(n, of int, seed uint32) []int {
	var l []int
	roll := dice(seed)
	for range n {
		l = append(l, roll(of))
	}
	return l
}

// allGrids returns all grids with these sides.
func allGrids(w, h int) []api.Grid {
	var l []api.Grid
	for v := range 1 << (w * h) {
		l = append(l, buildGrid(w, h, func(x, y int) bool { return v>>(y*w+x)&1 == 1 }))
	}
	return l
}

// allLists returns all lists of n of some colours, those that come before others
// first.
func allLists(n int, of ...int) [][]int {
	l := [][]int{nil}
	for range n {
		var longer [][]int
		for _, list := range l {
			for _, c := range of {
				longer = append(longer, append(slices.Clone(list), c))
			}
		}
		l = longer
	}
	return l
}

// allImages returns all images with these sides of some colours.
func allImages(w, h int, of ...int) []api.Image {
	var l []api.Image
	for _, c := range allLists(w*h, of...) {
		l = append(l, api.Image{W: w, H: h, C: c})
	}
	return l
}

// smallDyed calls do with all small images of some colours, and all thread colours
// of them.
func smallDyed(sizes [][2]int, of []int, do func(d dyed)) {
	for _, s := range sizes {
		warps, wefts := allLists(s[0], of...), allLists(s[1], of...)
		for _, m := range allImages(s[0], s[1], of...) {
			for _, warp := range warps {
				for _, weft := range wefts {
					do(dyed{m, warp, weft})
				}
			}
		}
	}
}

// front returns what a cloth looks like.
func front(t *testing.T, g api.Grid, warp, weft []int) api.Image {
	t.Helper()
	m, e := colour.Front(g, warp, weft)
	if e != api.OK {
		t.Fatalf("Front of %v, %v, %v: %d", g, warp, weft, e)
	}
	return m
}

// cloths calls do with fronts of cloths with their thread colours, of many sizes
// and with few or many colours.
func cloths(t *testing.T, do func(g api.Grid, d dyed)) {
	t.Helper()
	for _, s := range append(greatSizes, smallSizes...) {
		for _, of := range []int{1, 2, 3, 16} {
			for seed := range uint32(4) {
				warp, weft := someColours(s[0], of, seed+10), someColours(s[1], of, seed+20)
				for _, g := range []api.Grid{random(s[0], s[1], seed), blank(s[0], s[1], seed%2 == 0)} {
					do(g, dyed{front(t, g, warp, weft), warp, weft})
				}
			}
		}
	}
}

// kindAt returns what a cell is, by the definition.
func kindAt(d dyed, x, y int) kind {
	c := d.m.C[y*d.m.W+x]
	switch {
	case d.warp[x] == c && d.weft[y] == c:
		return open
	case d.warp[x] == c:
		return forcedUp
	case d.weft[y] == c:
		return forcedDown
	}
	return impossible
}

// has returns the grid of the cells of a kind.
func has(d dyed, k kind) api.Grid {
	return buildGrid(d.m.W, d.m.H, func(x, y int) bool { return kindAt(d, x, y) == k })
}

// isFit reports whether thread colours fit, by the definition.
func isFit(d dyed) bool {
	for i := range d.m.C {
		if kindAt(d, i%d.m.W, i/d.m.W) == impossible {
			return false
		}
	}
	return true
}

// isShown reports whether a grid shows an image, by the definition.
func isShown(g api.Grid, d dyed) bool {
	for i, isUp := range g.Bits {
		if c := d.m.C[i]; isUp && d.warp[i%g.W] != c || !isUp && d.weft[i/g.W] != c {
			return false
		}
	}
	return true
}

// woven returns the grid that shows an image and is like another one in all open
// cells, by the definition.
func woven(d dyed, like api.Grid) api.Grid {
	return buildGrid(d.m.W, d.m.H, func(x, y int) bool {
		k := kindAt(d, x, y)
		return k == forcedUp || k == open && like.Bits[y*d.m.W+x]
	})
}

// wantCells checks the cells that are forced up and those that are open.
func wantCells(t *testing.T, d dyed, wantUp, wantOpen api.Grid) {
	t.Helper()
	up, free, e := picture.Cells(d.m, d.warp, d.weft)
	if !grid.Same(up, wantUp) || !grid.Same(free, wantOpen) || e != api.OK {
		t.Fatalf("Cells of %v: %v, %v, %d, want %v, %v", d, up, free, e, wantUp, wantOpen)
	}
}

// wantNoCells checks that Cells has an error.
func wantNoCells(t *testing.T, d dyed, want api.Errno) {
	t.Helper()
	up, free, e := picture.Cells(d.m, d.warp, d.weft)
	if !grid.Same(up, api.Grid{}) || !grid.Same(free, api.Grid{}) || e != want {
		t.Fatalf("Cells of %v: %v, %v, %d, want %d", d, up, free, e, want)
	}
}

// wantWeave checks the grid that shows an image.
func wantWeave(t *testing.T, d dyed, like, want api.Grid) {
	t.Helper()
	if g, e := picture.Weave(d.m, d.warp, d.weft, like); !grid.Same(g, want) || e != api.OK {
		t.Fatalf("Weave of %v, %v: %v, %d, want %v", d, like, g, e, want)
	}
}

// wantNoWeave checks that Weave has an error.
func wantNoWeave(t *testing.T, d dyed, like api.Grid, want api.Errno) {
	t.Helper()
	if g, e := picture.Weave(d.m, d.warp, d.weft, like); !grid.Same(g, api.Grid{}) || e != want {
		t.Fatalf("Weave of %v, %v: %v, %d, want %d", d, like, g, e, want)
	}
}

// wantShows checks whether a grid shows an image, or the error.
func wantShows(t *testing.T, g api.Grid, d dyed, want bool, wantE api.Errno) {
	t.Helper()
	if shows, e := picture.Shows(g, d.m, d.warp, d.weft); shows != want || e != wantE {
		t.Fatalf("Shows of %v, %v: %v, %d, want %v, %d", g, d, shows, e, want, wantE)
	}
}

func TestExamples(t *testing.T) {
	m := api.Image{W: 2, H: 2, C: []int{0, 1, 1, 1}}
	wantCells(t, dyed{m, []int{0, 1}, []int{1, 1}}, read(t, "..\nx.\n"), read(t, ".x\n.x\n"))
	wantFirst(t, m, []int{0, 0}, []int{1, 1})
	wantNoFit(t, api.Image{W: 3, H: 3, C: []int{0, 1, 2, 1, 2, 0, 2, 0, 1}}, api.ErrNone)
}

// P15.1: some cells of each kind.
func TestSomeCells(t *testing.T) {
	for _, c := range []struct {
		image, up, open string
		warp, weft      []int
	}{
		{"d\n", ".\n", "x\n", []int{3}, []int{3}},
		{"d\n", "x\n", ".\n", []int{3}, []int{7}},
		{"d\n", ".\n", ".\n", []int{7}, []int{3}},
		{"a\n", "x\n", ".\n", []int{0}, []int{15}},
		{"p\n", ".\n", ".\n", []int{0}, []int{15}},
		{"ab\nbb\n", "x.\n..\n", ".x\n.x\n", []int{0, 1}, []int{1, 1}},
		{"bb\nab\n", "..\nx.\n", ".x\n.x\n", []int{0, 1}, []int{1, 1}},
		{"ab\nbb\n", ".x\n..\n", "x.\n.x\n", []int{0, 1}, []int{1, 0}},
		{"ebc\nadd\n", ".xx\nx..\n", "...\n...\n", []int{0, 1, 2}, []int{3, 4}},
		{"abc\nabc\n", "xx.\nxxx\n", "..x\n...\n", []int{0, 1, 2}, []int{4, 2}},
		{"aaaa\nbbbb\n", "....\n....\n", "x.x.\n....\n", []int{0, 2, 0, 3}, []int{1, 0}},
		{"a\nb\na\n", "x\n.\n.\n", ".\n.\nx\n", []int{0}, []int{0, 1, 5}},
		{"pop\nopo\n", "...\n...\n", "x.x\n.x.\n", []int{15, 15, 15}, []int{14, 15}},
	} {
		d := dyed{readImage(t, c.image), c.warp, c.weft}
		if !isFit(d) {
			wantNoCells(t, d, api.ErrNone)
			continue
		}
		wantCells(t, d, read(t, c.up), read(t, c.open))
	}
}

// P15.1: all small images with all thread colours of few colours.
func TestCells(t *testing.T) {
	fits, others := 0, 0
	smallDyed(smallSizes, []int{0, 1, 15}, func(d dyed) {
		if isFit(d) {
			wantCells(t, d, has(d, forcedUp), has(d, open))
			fits++
		} else {
			wantNoCells(t, d, api.ErrNone)
			others++
		}
	})
	if fits < 1000 || others < 1000 {
		t.Errorf("%d thread colours fit, and %d do not", fits, others)
	}
}

// P15.1: all colours of a cell, of its end and of its pick.
func TestColoursOfOneCell(t *testing.T) {
	for c := range 16 {
		for end := range 16 {
			for pick := range 16 {
				d := dyed{plain(1, 1, c), []int{end}, []int{pick}}
				if c != end && c != pick {
					wantNoCells(t, d, api.ErrNone)
					wantNoWeave(t, d, blank(1, 1, true), api.ErrNone)
				} else {
					wantCells(t, d, blank(1, 1, c != pick), blank(1, 1, end == pick))
				}
			}
		}
	}
}

// P15.1: a cell that is impossible, forced up, forced down or open, as the first
// and the last one of images of many sizes, and in their other corners.
func TestFirstAndLastCell(t *testing.T) {
	for _, s := range append(greatSizes, smallSizes...) {
		w, h := s[0], s[1]
		for _, at := range [][2]int{{0, 0}, {w - 1, 0}, {0, h - 1}, {w - 1, h - 1}} {
			is := func(x, y int) bool { return x == at[0] && y == at[1] }
			only, none, all := buildGrid(w, h, is), blank(w, h, false), blank(w, h, true)
			rest, _ := grid.Not(only)
			m := build(w, h, func(x, y int) int {
				if is(x, y) {
					return 9
				}
				return 4
			})
			ends, picks := slices.Repeat([]int{4}, w), slices.Repeat([]int{4}, h)
			wantNoCells(t, dyed{m, ends, picks}, api.ErrNone)
			wantNoWeave(t, dyed{m, ends, picks}, all, api.ErrNone)
			wantCells(t, dyed{plain(w, h, 4), ends, picks}, none, all)
			end, pick := slices.Clone(ends), slices.Clone(picks)
			end[at[0]], pick[at[1]] = 9, 9
			column := buildGrid(w, h, func(x, y int) bool { return x == at[0] })
			row := buildGrid(w, h, func(x, y int) bool { return y == at[1] })
			notColumn, _ := grid.Not(column)
			notRow, _ := grid.Not(row)
			wantCells(t, dyed{m, end, picks}, only, notColumn)
			wantCells(t, dyed{m, ends, pick}, buildGrid(w, h, func(x, y int) bool { return y == at[1] && x != at[0] }), notRow)
			wantWeave(t, dyed{m, end, picks}, none, only)
			wantWeave(t, dyed{m, ends, pick}, all, rest)
			if w == 1 && h == 1 {
				wantCells(t, dyed{m, end, pick}, none, all)
			} else if w > 1 && h > 1 {
				wantOpenCell(t, dyed{m, end, pick}, only)
			}
		}
	}
}

// wantOpenCell checks a cell whose end and pick have its colour, which no other
// cell, end or pick has.
func wantOpenCell(t *testing.T, d dyed, only api.Grid) {
	t.Helper()
	both := buildGrid(d.m.W, d.m.H, func(x, y int) bool {
		return d.warp[x] == 4 && d.weft[y] == 4 || only.Bits[y*d.m.W+x]
	})
	up := buildGrid(d.m.W, d.m.H, func(x, y int) bool { return d.warp[x] == 4 && d.weft[y] == 9 })
	wantCells(t, d, up, both)
	wantWeave(t, d, blank(d.m.W, d.m.H, false), up)
}

// P15.1: one impossible cell, at each place.
func TestOneImpossibleCell(t *testing.T) {
	for _, s := range append(greatSizes[1:3], [2]int{16, 16}, [2]int{5, 7}, [2]int{3, 2}) {
		warp, weft := someColours(s[0], 4, 1), someColours(s[1], 4, 2)
		g := random(s[0], s[1], 3)
		for i := range s[0] * s[1] {
			d := dyed{front(t, g, warp, weft), warp, weft}
			wantWeave(t, d, g, g)
			d.m.C[i] = 4 + i%12
			wantNoCells(t, d, api.ErrNone)
			wantNoWeave(t, d, g, api.ErrNone)
			wantShows(t, g, d, false, api.OK)
		}
	}
}

// P15.1: fronts with sides of up to MaxSide.
func TestCellsOfCloths(t *testing.T) {
	cloths(t, func(g api.Grid, d dyed) {
		wantCells(t, d, has(d, forcedUp), has(d, open))
		wantWeave(t, d, g, g)
		for seed := range uint32(2) {
			like := random(g.W, g.H, seed+30)
			wantWeave(t, d, like, woven(d, like))
		}
		wantWeave(t, d, blank(g.W, g.H, true), woven(d, blank(g.W, g.H, true)))
		wantWeave(t, d, blank(g.W, g.H, false), has(d, forcedUp))
	})
}

// P15.1, P15.2 and P15.4: all small images with all thread colours and all grids.
// A grid shows an image exactly if it is up where cells are forced up, and down
// where they are forced down; as many as 2 to the power of the open cells do.
func TestAllGrids(t *testing.T) {
	for _, c := range []struct {
		sizes [][2]int
		of    []int
	}{
		{[][2]int{{1, 1}, {1, 2}, {2, 1}, {1, 3}, {3, 1}, {2, 2}}, []int{0, 1, 15}},
		{[][2]int{{3, 2}, {2, 3}}, []int{6, 7}},
	} {
		smallDyed(c.sizes, c.of, func(d dyed) {
			up, free, e := picture.Cells(d.m, d.warp, d.weft)
			n := 0
			for _, g := range allGrids(d.m.W, d.m.H) {
				if e != api.OK {
					wantShows(t, g, d, false, api.OK)
					wantNoWeave(t, d, g, api.ErrNone)
					continue
				}
				shows := followsForced(g, up, free)
				if shows {
					n++
				}
				if shows != isShown(g, d) {
					t.Fatalf("%v shows %v: %v", g, d, !shows)
				}
				wantShows(t, g, d, shows, api.OK)
				wantWeave(t, d, g, woven(d, g))
			}
			if count, _ := grid.Count(free); e == api.OK && n != 1<<count {
				t.Fatalf("%d grids show %v, with %d open cells", n, d, count)
			}
		})
	}
}

// followsForced reports whether a grid is up where cells are forced up, and down
// where they are forced down.
func followsForced(g, up, free api.Grid) bool {
	for i, isUp := range g.Bits {
		if !free.Bits[i] && isUp != up.Bits[i] {
			return false
		}
	}
	return true
}

// P15.2 and P15.4: cloths show their fronts; a changed cell matters exactly if it
// is not open.
func TestShows(t *testing.T) {
	shown, others := 0, 0
	cloths(t, func(g api.Grid, d dyed) {
		wantShows(t, g, d, true, api.OK)
		for k := range min(len(g.Bits), 40) {
			i := k * (len(g.Bits) - 1) / max(1, min(len(g.Bits), 40)-1)
			changed := api.Grid{W: g.W, H: g.H, Bits: slices.Clone(g.Bits)}
			changed.Bits[i] = !changed.Bits[i]
			isOpen := kindAt(d, i%g.W, i/g.W) == open
			wantShows(t, changed, d, isOpen, api.OK)
			if isOpen {
				shown++
			} else {
				others++
			}
		}
	})
	if shown < 1000 || others < 1000 {
		t.Errorf("%d changed grids show the image, and %d do not", shown, others)
	}
}

// P15.2: grids that show another image, and images that nothing shows.
func TestShowsOtherImages(t *testing.T) {
	d := dyed{readImage(t, "ebc\nadd\n"), []int{0, 1, 2}, []int{3, 4}}
	for _, g := range allGrids(3, 2) {
		wantShows(t, g, d, grid.Same(g, read(t, ".xx\nx..\n")), api.OK)
	}
	for _, s := range []string{"pbc\nadd\n", "ebc\nadp\n", "eba\nadd\n", "ebc\nbdd\n", "ppp\nppp\n"} {
		other := dyed{readImage(t, s), d.warp, d.weft}
		for _, g := range allGrids(3, 2) {
			wantShows(t, g, other, false, api.OK)
		}
	}
	wide := dyed{plain(64, 64, 2), slices.Repeat([]int{2}, 64), slices.Repeat([]int{3}, 64)}
	wantShows(t, blank(64, 64, true), wide, true, api.OK)
	wantShows(t, blank(64, 64, false), wide, false, api.OK)
	for i := range 64 * 64 {
		one := blank(64, 64, true)
		one.Bits[i] = false
		wantShows(t, one, wide, false, api.OK)
	}
}

// P15.4: images of thread colours turned, with ends and picks exchanged: what was
// forced up is forced down.
func TestTurnedCells(t *testing.T) {
	check := func(d dyed) {
		m, _ := colour.Turn(d.m)
		turned := dyed{m, d.weft, d.warp}
		if !isFit(d) {
			wantNoCells(t, turned, api.ErrNone)
			return
		}
		up, free, _ := picture.Cells(d.m, d.warp, d.weft)
		closed, _ := grid.Or(up, free)
		down, _ := grid.Not(closed)
		wantUp, _ := grid.Turn(down)
		wantOpen, _ := grid.Turn(free)
		wantCells(t, turned, wantUp, wantOpen)
	}
	smallDyed(smallSizes, []int{0, 1}, check)
	smallDyed([][2]int{{2, 2}}, []int{0, 1, 2}, check)
	cloths(t, func(g api.Grid, d dyed) { check(d) })
}

// text returns a name of an image for messages, the beginning of it for a great one.
func text(m api.Image) string {
	s, _ := colour.Text(m)
	return strings.ReplaceAll(s[:min(len(s), 500)], "\n", "/")
}
