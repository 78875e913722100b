package float_test

import (
	"math"
	"slices"
	"testing"

	"raddle/api"
	"raddle/float"
	"raddle/grid"
)

// read returns the grid with a text.
func read(t *testing.T, s string) api.Grid {
	t.Helper()
	g, e := grid.Parse(s)
	if e != api.OK {
		t.Fatalf("Parse(%q): %d", s, e)
	}
	return g
}

// show returns the text of a grid on lines of their own.
func show(g api.Grid) string {
	s, e := grid.Text(g)
	if e != api.OK {
		return "no grid"
	}
	return "\n" + s
}

// build returns the grid with these sides and cells.
func build(w, h int, up func(x, y int) bool) api.Grid {
	g := api.Grid{W: w, H: h}
	for y := range h {
		for x := range w {
			g.Bits = append(g.Bits, up(x, y))
		}
	}
	return g
}

// blank returns the grid whose cells are all up, or all down.
func blank(w, h int, up bool) api.Grid {
	return build(w, h, func(int, int) bool { return up })
}

// dot returns the grid of which only one cell is up.
func dot(w, h, x, y int) api.Grid {
	return build(w, h, func(i, k int) bool { return i == x && k == y })
}

// twill returns the grid in which each pick is the one before it, moved, with
// over cells side by side that are up.
func twill(w, h, over, move int) api.Grid {
	return build(w, h, func(x, y int) bool { return ((x-y*move)%w+w)%w < over })
}

// random returns a grid whose cells follow no rule.
func random(w, h int) api.Grid {
	seed := uint32(w*100 + h)
	return build(w, h, func(int, int) bool {
		seed = seed*1664525 + 1013904223
		return seed>>30 == 0 || seed>>28 == 9
	})
}

// small returns all grids with up to most cells.
func small(most int) []api.Grid {
	var l []api.Grid
	for w := 1; w <= most; w++ {
		for h := 1; w*h <= most; h++ {
			for v := range 1 << (w * h) {
				l = append(l, build(w, h, func(x, y int) bool { return v>>(y*w+x)&1 == 1 }))
			}
		}
	}
	return l
}

// samples returns grids of many sizes, up to the greatest ones.
func samples() []api.Grid {
	l := []api.Grid{
		blank(64, 64, false), blank(64, 64, true), blank(64, 1, true), blank(1, 64, false), blank(3, 5, true), blank(5, 3, false),
		dot(64, 64, 0, 0), dot(64, 64, 63, 63), dot(64, 64, 63, 0), dot(64, 64, 0, 63), dot(64, 1, 17, 0), dot(1, 64, 0, 40),
		twill(64, 64, 32, 1), twill(64, 64, 63, 63), twill(8, 8, 3, 3), twill(4, 4, 2, 1), twill(5, 10, 1, 2), twill(7, 3, 5, 2),
		build(64, 64, func(x, y int) bool { return (x+y)%2 == 0 }),
		build(64, 64, func(x, y int) bool { return x < y }),
		build(64, 64, func(x, y int) bool { return x%2 == 0 }),
		build(64, 64, func(x, y int) bool { return y/16%2 == 0 }),
		build(63, 64, func(x, y int) bool { return x%3 == 0 || y == 5 }),
	}
	for _, s := range [][2]int{{64, 64}, {63, 64}, {64, 63}, {64, 1}, {1, 64}, {2, 64}, {64, 2}, {17, 5}, {5, 17}, {11, 13}} {
		l = append(l, random(s[0], s[1]))
	}
	return l
}

// end returns a float of an end.
func end(at, from, length int) api.Float {
	return api.Float{Warp: true, At: at, From: from, Length: length}
}

// pick returns a float of a pick.
func pick(at, from, length int) api.Float {
	return api.Float{At: at, From: from, Length: length}
}

// whole returns the float of a thread that never changes sides.
func whole(warp bool, at, length int) api.Float {
	return api.Float{Warp: warp, At: at, Length: length, Whole: true}
}

// strand is a thread of a grid, as the definitions speak of it.
type strand struct {
	g    api.Grid
	warp bool
	at   int
}

// strands returns the ends of a grid, and then its picks.
func strands(g api.Grid) []strand {
	var l []strand
	for x := range g.W {
		l = append(l, strand{g, true, x})
	}
	for y := range g.H {
		l = append(l, strand{g, false, y})
	}
	return l
}

// cells returns how many cells a thread has.
func (s strand) cells() int {
	if s.warp {
		return s.g.H
	}
	return s.g.W
}

// side returns the side of a thread at its cell i, around.
func (s strand) side(i int) int {
	i = (i + s.cells()) % s.cells()
	x, y := s.at, i
	if !s.warp {
		x, y = i, s.at
	}
	isUp := s.g.Bits[y*s.g.W+x]
	if s.warp && isUp || !s.warp && !isUp {
		return 0
	}
	return 1
}

// floats finds the floats of a side of a thread by their definition: runs that
// cannot be made greater.
func (s strand) floats(side int) []api.Float {
	var l []api.Float
	for from := range s.cells() {
		n := 0
		for n < s.cells() && s.side(from+n) == side {
			n++
		}
		if n == s.cells() {
			return []api.Float{whole(s.warp, s.at, n)}
		}
		if n > 0 && s.side(from-1) != side {
			l = append(l, api.Float{Warp: s.warp, At: s.at, From: from, Length: n})
		}
	}
	return l
}

// crossings counts the crossings of a thread by their definition.
func (s strand) crossings() int {
	n := 0
	for i := range s.cells() {
		if s.side(i) != s.side(i-1) {
			n++
		}
	}
	return n
}

// listed finds the floats of a side of a grid by their definition.
func listed(g api.Grid, side int) []api.Float {
	var l []api.Float
	for _, s := range strands(g) {
		l = append(l, s.floats(side)...)
	}
	return l
}

// wantList checks the floats of a side.
func wantList(t *testing.T, g api.Grid, side int, want ...api.Float) {
	t.Helper()
	if l, e := float.List(g, side); !slices.Equal(l, want) || e != api.OK {
		t.Fatalf("List of the side %d: %v, %d, want %v, for%s", side, l, e, want, show(g))
	}
}

// wantLongest checks the longest floats of both sides.
func wantLongest(t *testing.T, g api.Grid, face, back int) {
	t.Helper()
	for side, want := range []int{face, back} {
		if n, e := float.Longest(g, side); n != want || e != api.OK {
			t.Fatalf("Longest of the side %d: %d, %d, want %d, for%s", side, n, e, want, show(g))
		}
	}
}

// wantOver checks the floats that are longer than most.
func wantOver(t *testing.T, g api.Grid, most int, want ...api.Float) {
	t.Helper()
	if l, e := float.Over(g, most); !slices.Equal(l, want) || e != api.OK {
		t.Fatalf("Over(%d): %v, %d, want %v, for%s", most, l, e, want, show(g))
	}
}

// wantCrossings checks the crossings of a thread.
func wantCrossings(t *testing.T, g api.Grid, warp bool, at, want int) {
	t.Helper()
	if n, e := float.Crossings(g, warp, at); n != want || e != api.OK {
		t.Fatalf("Crossings(%v, %d): %d, %d, want %d, for%s", warp, at, n, e, want, show(g))
	}
}

// wantCount checks the crossings of all ends, and of all picks.
func wantCount(t *testing.T, g api.Grid, warp, weft int) {
	t.Helper()
	if a, b, e := float.Count(g); a != warp || b != weft || e != api.OK {
		t.Fatalf("Count: %d, %d, %d, want %d, %d, for%s", a, b, e, warp, weft, show(g))
	}
}

func TestExamples(t *testing.T) {
	g := read(t, "x..x\n..xx\n.xx.\nxx..\n")
	wantList(t, g, 0, end(0, 3, 2), end(1, 0, 2), end(2, 1, 2), end(3, 2, 2), pick(0, 2, 2), pick(1, 3, 2), pick(2, 0, 2), pick(3, 1, 2))
	wantList(t, g, 1, end(0, 1, 2), end(1, 2, 2), end(2, 3, 2), end(3, 0, 2), pick(0, 0, 2), pick(1, 1, 2), pick(2, 2, 2), pick(3, 3, 2))
	plain := read(t, ".x\nx.\n")
	wantLongest(t, plain, 1, 1)
	wantOver(t, plain, 1)
	for _, s := range strands(plain) {
		wantCrossings(t, plain, s.warp, s.at, 2)
	}
	line := read(t, "x.\n")
	wantList(t, line, 0, whole(true, 0, 1), pick(0, 1, 1))
	wantList(t, line, 1, whole(true, 1, 1), pick(0, 0, 1))
}

// P8.1: ends come before picks, then the threads by their numbers, and the
// floats of a thread by where they begin, those across the border last.
func TestListInOrder(t *testing.T) {
	g := read(t, "..x\nxx.\nx.x\nx..\n")
	wantList(t, g, 0, end(0, 0, 3), end(1, 2, 1), end(2, 1, 1), end(2, 3, 1), pick(0, 1, 2), pick(1, 1, 1), pick(2, 2, 1), pick(3, 0, 2))
	wantList(t, g, 1, end(0, 3, 1), end(1, 3, 3), end(2, 0, 1), end(2, 2, 1), pick(0, 0, 1), pick(1, 2, 2), pick(2, 0, 2), pick(3, 2, 1))
}

// P8.1: grids of one row, of one column and of one cell, with threads that are
// on one side everywhere.
func TestListOfLines(t *testing.T) {
	row := read(t, "x.xx.x\n")
	wantList(t, row, 0, whole(true, 0, 1), whole(true, 2, 1), whole(true, 3, 1), whole(true, 5, 1), pick(0, 1, 1), pick(0, 4, 1))
	wantList(t, row, 1, whole(true, 1, 1), whole(true, 4, 1), pick(0, 2, 2), pick(0, 5, 2))
	column := read(t, "x\nx\n.\nx\n.\nx\n")
	wantList(t, column, 0, end(0, 2, 1), end(0, 4, 3), whole(false, 1, 1), whole(false, 3, 1))
	wantList(t, column, 1, end(0, 1, 1), end(0, 3, 1), whole(false, 0, 1), whole(false, 2, 1), whole(false, 4, 1), whole(false, 5, 1))
	wantList(t, read(t, "x\n"), 0, whole(true, 0, 1))
	wantList(t, read(t, "x\n"), 1, whole(false, 0, 1))
	wantList(t, read(t, ".\n"), 0, whole(false, 0, 1))
	wantList(t, read(t, ".\n"), 1, whole(true, 0, 1))
}

// P8.1: a float that goes on across the border is one float, and begins before
// the border.
func TestFloatsAcrossTheBorder(t *testing.T) {
	for _, c := range []struct {
		cloth      string
		face, back api.Float
	}{
		{"x...\n", pick(0, 1, 3), pick(0, 0, 1)},
		{".x..\n", pick(0, 2, 3), pick(0, 1, 1)},
		{"..x.\n", pick(0, 3, 3), pick(0, 2, 1)},
		{"...x\n", pick(0, 0, 3), pick(0, 3, 1)},
		{"x..x\n", pick(0, 1, 2), pick(0, 3, 2)},
		{"xx.x\n", pick(0, 2, 1), pick(0, 3, 3)},
		{"x\n.\n.\n", end(0, 2, 1), end(0, 0, 2)},
		{".\nx\n.\n", end(0, 1, 1), end(0, 2, 2)},
		{".\n.\nx\n", end(0, 0, 1), end(0, 1, 2)},
		{"x\n.\nx\n", end(0, 2, 2), end(0, 1, 1)},
	} {
		g := read(t, c.cloth)
		for side, want := range []api.Float{c.face, c.back} {
			l, e := float.List(g, side)
			l = slices.DeleteFunc(l, func(f api.Float) bool { return f.Whole })
			if !slices.Equal(l, []api.Float{want}) || e != api.OK {
				t.Errorf("List of the side %d: %v, %d, want %v, for\n%s", side, l, e, want, c.cloth)
			}
		}
	}
}

// P8.1: without a cell that is up all picks are on the face, with all cells up
// all ends are.
func TestFloatsOfBlankGrids(t *testing.T) {
	for _, s := range [][2]int{{1, 1}, {1, 64}, {64, 1}, {3, 2}, {64, 64}} {
		w, h := s[0], s[1]
		var ends, picks []api.Float
		for x := range w {
			ends = append(ends, whole(true, x, h))
		}
		for y := range h {
			picks = append(picks, whole(false, y, w))
		}
		wantList(t, blank(w, h, true), 0, ends...)
		wantList(t, blank(w, h, true), 1, picks...)
		wantLongest(t, blank(w, h, true), h, w)
		wantOver(t, blank(w, h, true), 64, append(slices.Clone(ends), picks...)...)
		wantList(t, blank(w, h, false), 0, picks...)
		wantList(t, blank(w, h, false), 1, ends...)
		wantLongest(t, blank(w, h, false), w, h)
		wantOver(t, blank(w, h, false), 64, append(slices.Clone(picks), ends...)...)
		for _, up := range []bool{false, true} {
			wantCount(t, blank(w, h, up), 0, 0)
		}
	}
}

// P8.1
func TestList(t *testing.T) {
	for _, g := range append(samples(), small(10)...) {
		for side := range 2 {
			wantList(t, g, side, listed(g, side)...)
		}
	}
}

// P8.1
func TestLongest(t *testing.T) {
	for _, c := range []struct {
		cloth      string
		face, back int
	}{
		{"..x\nxx.\nx.x\nx..\n", 3, 3},
		{"x.\n", 1, 1},
		{"x\n", 1, 1},
		{"x...\n", 3, 1},
		{".xxx\n", 1, 3},
		{"x\n.\n.\n.\n", 1, 3},
		{".\nx\nx\nx\n", 3, 1},
		{"x..x\n..xx\n.xx.\nxx..\n", 2, 2},
		{"x...\n.x..\n..x.\n...x\n", 3, 3},
		{"xx.xx\n", 1, 4},
	} {
		wantLongest(t, read(t, c.cloth), c.face, c.back)
	}
	for _, g := range append(samples(), small(10)...) {
		var longest [2]int
		for side := range 2 {
			for _, f := range listed(g, side) {
				longest[side] = max(longest[side], f.Length)
			}
		}
		wantLongest(t, g, longest[0], longest[1])
	}
}

// P8.1: the floats of the face come before those of the back.
func TestOverInOrder(t *testing.T) {
	g := read(t, "..x\nxx.\nx.x\nx..\n")
	wantOver(t, g, 0,
		end(0, 0, 3), end(1, 2, 1), end(2, 1, 1), end(2, 3, 1), pick(0, 1, 2), pick(1, 1, 1), pick(2, 2, 1), pick(3, 0, 2),
		end(0, 3, 1), end(1, 3, 3), end(2, 0, 1), end(2, 2, 1), pick(0, 0, 1), pick(1, 2, 2), pick(2, 0, 2), pick(3, 2, 1))
	wantOver(t, g, 1, end(0, 0, 3), pick(0, 1, 2), pick(3, 0, 2), end(1, 3, 3), pick(1, 2, 2), pick(2, 0, 2))
	wantOver(t, g, 2, end(0, 0, 3), end(1, 3, 3))
	for _, most := range []int{3, 4, 64, math.MaxInt} {
		wantOver(t, g, most)
	}
}

// P8.1: a Whole float is returned although it is no longer than most.
func TestOverWhole(t *testing.T) {
	g := read(t, "x.x\nx.x\nx..\n")
	wantOver(t, g, 1, whole(true, 0, 3), end(2, 1, 2), pick(0, 1, 2), whole(true, 1, 3), pick(1, 2, 2), pick(2, 2, 2))
	for _, most := range []int{2, 3, 4, 64, math.MaxInt} {
		wantOver(t, g, most, whole(true, 0, 3), whole(true, 1, 3))
	}
	wantOver(t, read(t, "x\n"), 1, whole(true, 0, 1), whole(false, 0, 1))
	wantOver(t, read(t, ".\n"), math.MaxInt, whole(false, 0, 1), whole(true, 0, 1))
}

// P8.1
func TestOver(t *testing.T) {
	for _, g := range append(samples(), small(10)...) {
		all := append(listed(g, 0), listed(g, 1)...)
		wantOver(t, g, 0, all...)
		for _, most := range []int{1, 2, 3, 31, 32, 62, 63, 64, 65, math.MaxInt} {
			wantOver(t, g, most, slices.DeleteFunc(slices.Clone(all), func(f api.Float) bool {
				return !f.Whole && f.Length <= most
			})...)
		}
	}
}

// P8.2: of each thread, from the first one to the last one.
func TestCrossingsOfThreads(t *testing.T) {
	g := read(t, "..x\nxx.\nx.x\nx..\n")
	for x, want := range []int{2, 2, 4} {
		wantCrossings(t, g, true, x, want)
	}
	for y, want := range []int{2, 2, 2, 2} {
		wantCrossings(t, g, false, y, want)
	}
	wantCount(t, g, 8, 8)
	g = read(t, "x.x.\nxxxx\n")
	for x, want := range []int{0, 2, 0, 2} {
		wantCrossings(t, g, true, x, want)
	}
	for y, want := range []int{0, 4} {
		wantCrossings(t, g, false, y, want)
	}
	wantCount(t, g, 4, 4)
	for _, s := range []string{"x\n", ".\n"} {
		wantCrossings(t, read(t, s), true, 0, 0)
		wantCrossings(t, read(t, s), false, 0, 0)
		wantCount(t, read(t, s), 0, 0)
	}
	wantCount(t, read(t, "x.xx.x\n"), 0, 4)
	wantCount(t, read(t, "x\nx\n.\nx\n.\nx\n"), 4, 0)
}

// P8.2
func TestCrossings(t *testing.T) {
	for _, g := range append(samples(), small(10)...) {
		warp, weft := 0, 0
		for _, s := range strands(g) {
			n := s.crossings()
			wantCrossings(t, g, s.warp, s.at, n)
			if s.warp {
				warp += n
			} else {
				weft += n
			}
		}
		wantCount(t, g, warp, weft)
	}
}

// P8.2: as many crossings as there can be, in both directions.
func TestCountOfPlainWeave(t *testing.T) {
	for _, s := range [][2]int{{2, 2}, {2, 64}, {64, 2}, {64, 64}} {
		g := build(s[0], s[1], func(x, y int) bool { return (x+y)%2 == 0 })
		wantCount(t, g, s[0]*s[1], s[0]*s[1])
		wantLongest(t, g, 1, 1)
	}
	wantCount(t, build(63, 64, func(x, y int) bool { return (x+y)%2 == 0 }), 63*64, 62*64)
}

// ofThread returns the floats of a side that are those of one thread.
func ofThread(t *testing.T, s strand, side int) []api.Float {
	t.Helper()
	l, e := float.List(s.g, side)
	if e != api.OK {
		t.Fatalf("List of the side %d: %d, for%s", side, e, show(s.g))
	}
	return slices.DeleteFunc(l, func(f api.Float) bool { return f.Warp != s.warp || f.At != s.at })
}

// P8.3: the floats of both sides are each cell of a thread just once, and are
// as many as its crossings, half of them on each side, unless one is Whole.
func TestFloatsAreCells(t *testing.T) {
	for _, g := range append(samples(), small(8)...) {
		for _, s := range strands(g) {
			sides := [2][]api.Float{ofThread(t, s, 0), ofThread(t, s, 1)}
			all := slices.Concat(sides[0], sides[1])
			times := make([]int, s.cells())
			for _, f := range all {
				for i := range f.Length {
					times[(f.From+i)%len(times)]++
				}
			}
			if slices.Min(times) != 1 || slices.Max(times) != 1 {
				t.Fatalf("the cells of %v, %d are those of floats %v times, for%s", s.warp, s.at, times, show(g))
			}
			n, _ := float.Crossings(g, s.warp, s.at)
			isHalf := len(sides[0]) == len(sides[1]) && len(all) == n
			isWhole := len(all) == 1 && all[0].Whole && n == 0
			if all[0].Whole && !isWhole || !all[0].Whole && !isHalf {
				t.Fatalf("%v, %d has %d crossings, and the floats %v, for%s", s.warp, s.at, n, sides, show(g))
			}
		}
	}
}

// P8.3
func TestUpAndDownExchanged(t *testing.T) {
	for _, g := range append(samples(), small(10)...) {
		not, _ := grid.Not(g)
		for side := range 2 {
			l, _ := float.List(not, 1-side)
			wantList(t, g, side, l...)
		}
		face, _ := float.Longest(not, 1)
		back, _ := float.Longest(not, 0)
		wantLongest(t, g, face, back)
		warp, weft, _ := float.Count(not)
		wantCount(t, g, warp, weft)
	}
}

// P8.3: what the ends of a turned cloth have its picks had, on the other side.
func TestTurned(t *testing.T) {
	for _, g := range append(samples(), small(10)...) {
		turned, _ := grid.Turn(g)
		for side := range 2 {
			l, _ := float.List(g, side)
			i := slices.IndexFunc(l, func(f api.Float) bool { return !f.Warp })
			if i < 0 {
				i = len(l)
			}
			want := slices.Concat(l[i:], l[:i])
			for k := range want {
				want[k].Warp = !want[k].Warp
			}
			wantList(t, turned, 1-side, want...)
		}
		warp, weft, _ := float.Count(g)
		wantCount(t, turned, weft, warp)
	}
}

// order compares floats of a side as they are listed.
func order(a, b api.Float) int {
	if a.Warp != b.Warp {
		if a.Warp {
			return -1
		}
		return 1
	}
	if a.At != b.At {
		return a.At - b.At
	}
	return a.From - b.From
}

// P8.3: a Whole float begins at 0, wherever the cloth is moved.
func TestMoved(t *testing.T) {
	for i, g := range append(samples(), small(9)...) {
		for _, step := range []api.Point{{X: 1}, {Y: 1}, {X: i % 70, Y: i % 67}} {
			moved, _ := grid.Shift(g, step.X, step.Y)
			for side := range 2 {
				l, _ := float.List(g, side)
				for k, f := range l {
					across, along, n, cells := step.X, step.Y, g.W, g.H
					if !f.Warp {
						across, along, n, cells = step.Y, step.X, g.H, g.W
					}
					l[k].At = (f.At + across) % n
					if !f.Whole {
						l[k].From = (f.From + along) % cells
					}
				}
				slices.SortFunc(l, order)
				wantList(t, moved, side, l...)
			}
		}
	}
}
