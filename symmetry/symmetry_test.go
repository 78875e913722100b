package symmetry_test

import (
	"slices"
	"strings"
	"testing"

	"raddle/api"
	"raddle/grid"
	"raddle/repeat"
	"raddle/symmetry"
)

const operations = 16

// read returns the grid with a text.
func read(t *testing.T, s string) api.Grid {
	t.Helper()
	g, e := grid.Parse(s)
	if e != api.OK {
		t.Fatalf("Parse(%q): %d", s, e)
	}
	return g
}

// show returns the text of a grid on lines of their own.
func show(g api.Grid) string {
	s, e := grid.Text(g)
	if e != api.OK {
		return "no grid"
	}
	return "\n" + s
}

// build returns the grid with these sides and cells.
func build(w, h int, up func(x, y int) bool) api.Grid {
	g := api.Grid{W: w, H: h}
	for y := range h {
		for x := range w {
			g.Bits = append(g.Bits, up(x, y))
		}
	}
	return g
}

// blank returns the grid whose cells are all up, or all down.
func blank(w, h int, up bool) api.Grid {
	return build(w, h, func(int, int) bool { return up })
}

// dot returns the grid of which only one cell is up.
func dot(w, h, x, y int) api.Grid {
	return build(w, h, func(i, k int) bool { return i == x && k == y })
}

// random returns a grid whose cells follow no rule.
func random(w, h int) api.Grid {
	seed := uint32(w*100 + h)
	return build(w, h, func(int, int) bool {
		seed = seed*1664525 + 1013904223
		return seed>>30 == 0 || seed>>28 == 9
	})
}

// small returns all grids with up to most cells.
func small(most int) []api.Grid {
	var l []api.Grid
	for w := 1; w <= most; w++ {
		for h := 1; w*h <= most; h++ {
			for v := range 1 << (w * h) {
				l = append(l, build(w, h, func(x, y int) bool { return v>>(y*w+x)&1 == 1 }))
			}
		}
	}
	return l
}

// satin returns the grid in which each pick is the one before it, moved.
func satin(w, h, over, move int) api.Grid {
	return build(w, h, func(x, y int) bool { return ((x-y*move)%w+w)%w < over })
}

// samples returns grids of many sizes and symmetries, up to the greatest ones
// that have a motif.
func samples() []api.Grid {
	l := []api.Grid{
		blank(1, 1, false), blank(1, 1, true), blank(16, 16, false), blank(16, 16, true), blank(1, 16, true), blank(16, 1, false),
		dot(16, 16, 0, 0), dot(16, 16, 15, 7), dot(1, 16, 0, 9), dot(16, 1, 15, 0), dot(15, 16, 2, 12), dot(6, 9, 5, 8),
		satin(16, 16, 8, 1), satin(16, 16, 1, 3), satin(16, 8, 3, 2), satin(5, 5, 1, 2), satin(10, 5, 3, 2), satin(8, 8, 1, 3),
		satin(13, 13, 4, 5), satin(13, 13, 1, 5), satin(3, 3, 1, 1), satin(12, 4, 2, 9), satin(15, 15, 6, 4),
		build(16, 16, func(x, y int) bool { return (x+y)%2 == 0 }),
		build(16, 16, func(x, y int) bool { return x/2%2 != y/4%2 }),
		build(16, 16, func(x, y int) bool { return x/8 != y/8 }),
		build(12, 12, func(x, y int) bool { return (x+y)%4 < 2 != (x%3 == y%3) }),
		build(16, 16, func(x, y int) bool { return x < y }),
		build(16, 16, func(x, y int) bool { return min(x, 15-x) < min(y, 15-y) }),
		build(1, 16, func(x, y int) bool { return y%8 < 3 }),
		build(16, 1, func(x, y int) bool { return x%8 < 3 || x%8 == 4 }),
	}
	for _, s := range [][2]int{{2, 2}, {3, 2}, {5, 7}, {1, 12}, {12, 1}, {16, 3}, {2, 16}, {16, 16}, {15, 16}, {16, 15}, {4, 4}} {
		l = append(l, random(s[0], s[1]))
	}
	return l
}

// up returns the cell (x, y) of the plane of a grid.
func up(g api.Grid, x, y int) bool {
	return g.Bits[((y%g.H+g.H)%g.H)*g.W+(x%g.W+g.W)%g.W]
}

// applied returns a grid with an operation applied, by its cells: each part of
// the operation is asked for on its own, the last one first.
func applied(g api.Grid, op int) api.Grid {
	w, h := g.W, g.H
	if op>>2%2 == 1 {
		w, h = h, w
	}
	return build(w, h, func(x, y int) bool {
		if op>>2%2 == 1 {
			x, y = y, x
		}
		if op>>1%2 == 1 {
			y = g.H - 1 - y
		}
		if op%2 == 1 {
			x = g.W - 1 - x
		}
		return up(g, x, y) != (op>>3 == 1)
	})
}

// common returns the least common multiple of a and b, by trying.
func common(a, b int) int {
	for n := a; ; n += a {
		if n%b == 0 {
			return n
		}
	}
}

// meets reports whether the plane of a is that of b, if it is moved by the step
// (dx, dy), as layer 6 says it.
func meets(a, b api.Grid, dx, dy int) bool {
	w, h := common(a.W, b.W), common(a.H, b.H)
	for y := range h {
		for x := range w {
			if up(a, x, y) != up(b, x+dx, y+dy) {
				return false
			}
		}
	}
	return true
}

// offset finds the offset of two grids by its definition.
func offset(a, b api.Grid) (api.Point, bool) {
	for dy := range b.H {
		for dx := range b.W {
			if meets(a, b, dx, dy) {
				return api.Point{X: dx, Y: dy}, true
			}
		}
	}
	return api.Point{}, false
}

// alike finds the operations by which two cloths are alike by their definition.
func alike(a, b api.Grid) []int {
	var ops []int
	for op := range operations {
		if _, is := offset(applied(a, op), b); is {
			ops = append(ops, op)
		}
	}
	return ops
}

// written returns the cells of a rectangle of the plane, row by row.
func written(g api.Grid, x, y, w, h int) string {
	var s strings.Builder
	for k := range h {
		for i := range w {
			if up(g, x+i, y+k) {
				s.WriteByte('1')
			} else {
				s.WriteByte('0')
			}
		}
	}
	return s.String()
}

// least finds the least form of a grid, and the operation, by the definition.
func least(g api.Grid) (w, h int, cells string, by int) {
	for op := range operations {
		a := applied(g, op)
		rw, rh := 1, 1
		for !meets(a, a, rw, 0) {
			rw++
		}
		for !meets(a, a, 0, rh) {
			rh++
		}
		for y := range a.H {
			for x := range a.W {
				s := written(a, x, y, rw, rh)
				isLess := rw < w || rw == w && (rh < h || rh == h && s < cells)
				if w == 0 || isLess {
					w, h, cells, by = rw, rh, s, op
				}
			}
		}
	}
	return w, h, cells, by
}

// wantGrid checks a grid that was returned.
func wantGrid(t *testing.T, what string, g api.Grid, e api.Errno, want api.Grid) {
	t.Helper()
	if !grid.Same(g, want) || e != api.OK {
		t.Fatalf("%s: %d%s\nwant%s", what, e, show(g), show(want))
	}
}

// wantOps checks a list of operations that was returned.
func wantOps(t *testing.T, what string, ops []int, e api.Errno, want ...int) {
	t.Helper()
	if !slices.Equal(ops, want) || e != api.OK {
		t.Fatalf("%s: %v, %d, want %v", what, ops, e, want)
	}
}

// every returns all operations.
func every() []int {
	var ops []int
	for op := range operations {
		ops = append(ops, op)
	}
	return ops
}

func TestExamples(t *testing.T) {
	ops, e := symmetry.All(read(t, ".x\nx.\n"))
	wantOps(t, "plain weave", ops, e, every()...)
	ops, e = symmetry.All(read(t, "x..x\n..xx\n.xx.\nxx..\n"))
	wantOps(t, "the 2/2 twill", ops, e, 0, 3, 4, 7, 8, 11, 12, 15)
	for _, c := range [][3]int{{1, 4, 5}, {4, 1, 6}} {
		if op, e := symmetry.Compose(c[0], c[1]); op != c[2] || e != api.OK {
			t.Errorf("Compose(%d, %d): %d, %d", c[0], c[1], op, e)
		}
	}
	if op, e := symmetry.Inverse(5); op != 6 || e != api.OK {
		t.Errorf("Inverse(5): %d, %d", op, e)
	}
	for _, is := range []bool{false, true} {
		for _, s := range [][2]int{{1, 1}, {2, 3}, {16, 1}, {1, 16}, {16, 16}} {
			g, _, e := symmetry.Least(blank(s[0], s[1], is))
			wantGrid(t, "a grid with all cells the same", g, e, blank(1, 1, false))
		}
	}
}

// P7.1: columns and rows are mirrored before ends and picks are exchanged.
func TestApplyInOrder(t *testing.T) {
	g := read(t, "xx.\nx..\n")
	for op, s := range []string{
		"xx.\nx..\n", ".xx\n..x\n", "x..\nxx.\n", "..x\n.xx\n",
		"..\n.x\nxx\n", "xx\n.x\n..\n", "..\nx.\nxx\n", "xx\nx.\n..\n",
		"..x\n.xx\n", "x..\nxx.\n", ".xx\n..x\n", "xx.\nx..\n",
		"xx\nx.\n..\n", "..\nx.\nxx\n", "xx\n.x\n..\n", "..\n.x\nxx\n",
	} {
		a, e := symmetry.Apply(g, op)
		wantGrid(t, "Apply", a, e, read(t, s))
	}
}

// P7.1
func TestApply(t *testing.T) {
	for _, g := range append(samples(), small(8)...) {
		for op := range operations {
			a, e := symmetry.Apply(g, op)
			wantGrid(t, "Apply", a, e, applied(g, op))
		}
	}
}

// P7.1: of grids of one column, of one row and of one cell.
func TestApplyToLines(t *testing.T) {
	for _, c := range []struct {
		from string
		to   [operations]string
	}{
		{"xx.\n", [operations]string{
			"xx.\n", ".xx\n", "xx.\n", ".xx\n", ".\nx\nx\n", "x\nx\n.\n", ".\nx\nx\n", "x\nx\n.\n",
			"..x\n", "x..\n", "..x\n", "x..\n", "x\n.\n.\n", ".\n.\nx\n", "x\n.\n.\n", ".\n.\nx\n",
		}},
		{"x\n.\n", [operations]string{
			"x\n.\n", "x\n.\n", ".\nx\n", ".\nx\n", ".x\n", ".x\n", "x.\n", "x.\n",
			".\nx\n", ".\nx\n", "x\n.\n", "x\n.\n", "x.\n", "x.\n", ".x\n", ".x\n",
		}},
		{"x\n", [operations]string{"x\n", "x\n", "x\n", "x\n", "x\n", "x\n", "x\n", "x\n", ".\n", ".\n", ".\n", ".\n", ".\n", ".\n", ".\n", ".\n"}},
	} {
		for op, s := range c.to {
			a, e := symmetry.Apply(read(t, c.from), op)
			wantGrid(t, "Apply", a, e, read(t, s))
		}
	}
}

// P7.1: the composition does what first a and then b do, whatever the grid, and
// is the only operation that does it.
func TestCompose(t *testing.T) {
	grids := append(samples(), small(4)...)
	skew := read(t, "xx..\nx...\n....\n")
	for a := range operations {
		for b := range operations {
			op, e := symmetry.Compose(a, b)
			if op < 0 || op >= operations || e != api.OK {
				t.Fatalf("Compose(%d, %d): %d, %d", a, b, op, e)
			}
			for _, g := range grids {
				wantGrid(t, "Compose", applied(g, op), api.OK, applied(applied(g, a), b))
			}
			for other := range operations {
				if other != op && grid.Same(applied(skew, other), applied(applied(skew, a), b)) {
					t.Fatalf("Compose(%d, %d): %d, and %d does it too", a, b, op, other)
				}
			}
		}
	}
}

// P7.1: all compositions of 4 to 7 with 1 and 2 differ from those in the other
// order.
func TestComposeInOrder(t *testing.T) {
	for _, c := range [][3]int{
		{0, 0, 0}, {0, 7, 7}, {7, 0, 7}, {1, 1, 0}, {1, 2, 3}, {2, 1, 3}, {2, 4, 6}, {4, 2, 5}, {3, 4, 7}, {4, 3, 7}, {4, 4, 0},
		{5, 5, 3}, {6, 6, 3}, {5, 6, 0}, {6, 5, 0}, {7, 7, 0}, {1, 5, 4}, {5, 1, 7}, {2, 5, 7}, {5, 2, 4}, {8, 8, 0}, {8, 5, 13},
		{5, 8, 13}, {13, 13, 3}, {13, 14, 0}, {14, 9, 4}, {9, 14, 7}, {15, 15, 0}, {12, 1, 14}, {1, 12, 13}, {15, 1, 13}, {10, 3, 9},
	} {
		if op, e := symmetry.Compose(c[0], c[1]); op != c[2] || e != api.OK {
			t.Errorf("Compose(%d, %d): %d, %d, want %d", c[0], c[1], op, e, c[2])
		}
	}
}

// P7.1: the composition with the inverse, in both orders, is 0.
func TestInverse(t *testing.T) {
	for op, want := range []int{0, 1, 2, 3, 4, 6, 5, 7, 8, 9, 10, 11, 12, 14, 13, 15} {
		back, e := symmetry.Inverse(op)
		if back != want || e != api.OK {
			t.Errorf("Inverse(%d): %d, %d, want %d", op, back, e, want)
		}
		first, e := symmetry.Compose(op, back)
		if first != 0 || e != api.OK {
			t.Errorf("Compose(%d, %d): %d, %d", op, back, first, e)
		}
		second, e := symmetry.Compose(back, op)
		if second != 0 || e != api.OK {
			t.Errorf("Compose(%d, %d): %d, %d", back, op, second, e)
		}
		for _, g := range samples() {
			a, _ := symmetry.Apply(g, op)
			again, e := symmetry.Apply(a, back)
			wantGrid(t, "Apply of the inverse", again, e, g)
		}
	}
}

// wantHas checks whether a cloth has an operation, and the offset.
func wantHas(t *testing.T, g api.Grid, op int, want bool, by api.Point) {
	t.Helper()
	if has, p, e := symmetry.Has(g, op); has != want || p != by || e != api.OK {
		t.Fatalf("Has of %d: %v, %v, %d, want %v, %v, for%s", op, has, p, e, want, by, show(g))
	}
}

// P7.2
func TestHas(t *testing.T) {
	for _, g := range append(samples(), small(9)...) {
		for op := range operations {
			by, is := offset(g, applied(g, op))
			wantHas(t, g, op, is, by)
		}
	}
}

// P7.2: a cloth may have an operation only when it is moved. The offset leads
// from the grid to the one with the operation applied, and not back.
func TestHasWhenMoved(t *testing.T) {
	for _, c := range []struct {
		cloth string
		op    int
		has   bool
		by    api.Point
	}{
		{"xx.\n", 0, true, api.Point{}},
		{"xx.\n", 1, true, api.Point{X: 1}},
		{"xx.\n", 2, true, api.Point{}},
		{"xx.\n", 3, true, api.Point{X: 1}},
		{"xx.\n", 4, false, api.Point{}},
		{"xx.\n", 8, false, api.Point{}},
		{"x\nx\n.\n", 2, true, api.Point{Y: 2}},
		{"x\nx\n.\n", 3, true, api.Point{Y: 2}},
		{"x\nx\n.\n", 1, true, api.Point{}},
		{".x\nx.\n", 1, true, api.Point{X: 1}},
		{".x\nx.\n", 3, true, api.Point{}},
		{".x\nx.\n", 8, true, api.Point{X: 1}},
		{".x\nx.\n", 9, true, api.Point{}},
		{"xx..\n", 8, true, api.Point{X: 2}},
		{"x\nx\n.\n.\n", 8, true, api.Point{Y: 2}},
		{"x..x\n..xx\n.xx.\nxx..\n", 8, true, api.Point{X: 2}},
		{"x..x\n..xx\n.xx.\nxx..\n", 3, true, api.Point{X: 3}},
		{"x..x\n..xx\n.xx.\nxx..\n", 1, false, api.Point{}},
		{"xx.x...\n", 1, false, api.Point{}},
		{"xx.x...\n", 9, false, api.Point{}},
		{"xx...\n.....\n", 3, true, api.Point{X: 3, Y: 1}},
		{".....\nxx...\n", 2, true, api.Point{Y: 1}},
	} {
		wantHas(t, read(t, c.cloth), c.op, c.has, c.by)
	}
}

// P7.2
func TestAll(t *testing.T) {
	for _, g := range append(samples(), small(9)...) {
		ops, e := symmetry.All(g)
		wantOps(t, "All of"+show(g), ops, e, alike(g, g)...)
		for op := range operations {
			if has, _, _ := symmetry.Has(g, op); has != slices.Contains(ops, op) {
				t.Fatalf("All: %v, and Has of %d: %v, for%s", ops, op, has, show(g))
			}
		}
	}
	for _, c := range []struct {
		cloth string
		want  []int
	}{
		{"x\n", []int{0, 1, 2, 3, 4, 5, 6, 7}},
		{"..\n..\n", []int{0, 1, 2, 3, 4, 5, 6, 7}},
		{"x.\n", []int{0, 1, 2, 3, 8, 9, 10, 11}},
		{"x..\n", []int{0, 1, 2, 3}},
		{"xx.x...\n", []int{0, 2}},
		{"x\n.\n.\n", []int{0, 1, 2, 3}},
		{"x..\n.x.\n..x\n", []int{0, 3, 4, 7}},
		{"...x.\n.x...\n....x\n..x..\nx....\n", []int{0, 3, 5, 6}},
		{"xx...\nx....\n..x..\n.....\n.....\n", []int{0, 7}},
		{"xx..\nx...\n....\n....\n", []int{0, 7}},
		{"xx.\nx..\n...\n...\n", []int{0}},
	} {
		ops, e := symmetry.All(read(t, c.cloth))
		wantOps(t, "All of\n"+c.cloth, ops, e, c.want...)
	}
}

// P7.2
func TestAlikeOfAllSmallGrids(t *testing.T) {
	all := small(5)
	for _, a := range all {
		for _, b := range all {
			ops, e := symmetry.Alike(a, b)
			wantOps(t, "Alike of"+show(a)+"and"+show(b), ops, e, alike(a, b)...)
		}
	}
}

// P7.2
func TestAlike(t *testing.T) {
	all := samples()
	for i, a := range all {
		for op := range operations {
			moved, _ := grid.Shift(applied(a, op), op+3, i)
			ops, e := symmetry.Alike(a, moved)
			wantOps(t, "Alike of"+show(a)+"and"+show(moved), ops, e, alike(a, moved)...)
			if !slices.Contains(ops, op) {
				t.Fatalf("Alike: %v, without %d, for%s", ops, op, show(a))
			}
		}
	}
	for _, c := range []struct {
		a, b string
		want []int
	}{
		{"x.\n.x\n", "x.x.\n.x.x\nx.x.\n.x.x\n", every()},
		{"x\n", ".\n", []int{8, 9, 10, 11, 12, 13, 14, 15}},
		{"x\n", "xxx\nxxx\n", []int{0, 1, 2, 3, 4, 5, 6, 7}},
		{"x..\n", "x\n.\n.\n", []int{4, 5, 6, 7}},
		{"x..\n", "xx.xx.\nxx.xx.\n", []int{8, 9, 10, 11}},
		{"x..\n", "x\nx\n.\nx\nx\n.\n", []int{12, 13, 14, 15}},
		{"xx.x...\n", "...x.xx\n", []int{1, 3}},
		{"xx.x...\n", "x.xx...\nx.xx...\n", []int{1, 3}},
		{"xx.x...\n", "x\nx\n.\nx\n.\n.\n.\n", []int{5, 7}},
		{"xx.\nx..\n...\n...\n", "....\n..xx\n...x\n", []int{5}},
		{"....\n..xx\n...x\n", "xx.\nx..\n...\n...\n", []int{6}},
		{"x.\n.x\n", "x.\n", nil},
		{"x\n", "x.\n", nil},
		{"x..\n", "x...\n", nil},
		{"x..\n.x.\n..x\n", "x..\nxx.\n..x\n", nil},
		{"...x.\n.x...\n....x\n..x..\nx....\n", ".x...\n...x.\nx....\n..x..\n....x\n", []int{1, 2, 4, 7}},
	} {
		ops, e := symmetry.Alike(read(t, c.a), read(t, c.b))
		wantOps(t, "Alike of\n"+c.a+"and\n"+c.b, ops, e, c.want...)
	}
}

// wantLeast checks the least form of a grid, and the operation.
func wantLeast(t *testing.T, g, want api.Grid, by int) {
	t.Helper()
	form, op, e := symmetry.Least(g)
	if !grid.Same(form, want) || op != by || e != api.OK {
		t.Fatalf("Least: %d, %d%s\nwant %d%s\nfor%s", op, e, show(form), by, show(want), show(g))
	}
}

// P7.3
func TestLeast(t *testing.T) {
	for _, g := range append(samples(), small(10)...) {
		w, h, cells, by := least(g)
		wantLeast(t, g, build(w, h, func(x, y int) bool { return cells[y*w+x] == '1' }), by)
	}
}

// P7.3: few columns come before few rows, and both before the cells; the row 0
// is the last one of a text.
func TestLeastForms(t *testing.T) {
	for _, c := range []struct {
		cloth, form string
		by          int
	}{
		{"x\n", ".\n", 8},
		{".\n", ".\n", 0},
		{"x.\n", "x\n.\n", 4},
		{"x\n.\n", "x\n.\n", 0},
		{".\nx\n", "x\n.\n", 0},
		{".x\nx.\n", "x.\n.x\n", 0},
		{"x..\n", "x\n.\n.\n", 4},
		{"xx.\n", "x\n.\n.\n", 12},
		{"x\nx\n.\n", "x\n.\n.\n", 8},
		{"x.\nx.\n..\n", ".x\n.x\n..\n", 0},
		{"x..\nxx.\n", "xx\n.x\n..\n", 5},
		{"xx.x...\n", "x\nx\n.\nx\n.\n.\n.\n", 5},
		{"x.xx...\n", "x\nx\n.\nx\n.\n.\n.\n", 4},
		{"x..x\n..xx\n.xx.\nxx..\n", "x..x\nxx..\n.xx.\n..xx\n", 1},
		{"..xx\nx..x\nxx..\n.xx.\n", "x..x\nxx..\n.xx.\n..xx\n", 0},
		{"xx..\n..xx\n", "x.\nx.\n.x\n.x\n", 4},
		{"...x.\n.x...\n....x\n..x..\nx....\n", ".x...\n...x.\nx....\n..x..\n....x\n", 1},
	} {
		wantLeast(t, read(t, c.cloth), read(t, c.form), c.by)
	}
}

// P7.3: the cloth and its least form are alike by the operation that is
// returned, and by none before it.
func TestLeastIsAlike(t *testing.T) {
	several := 0
	for _, g := range append(samples(), small(9)...) {
		form, by, _ := symmetry.Least(g)
		ops, e := symmetry.Alike(g, form)
		if e != api.OK || len(ops) == 0 || ops[0] != by {
			t.Fatalf("Least: %d, and alike by %v, %d, for%s", by, ops, e, show(g))
		}
		if by > 0 && len(ops) > 1 {
			several++
		}
		if w, h, _ := repeat.Rect(form); w != form.W || h != form.H {
			t.Fatalf("Least: no least rectangle%s", show(form))
		}
	}
	if several < 100 {
		t.Errorf("only %d least forms are made by several operations, but not by 0", several)
	}
}

// P7.4
func TestGroupOfACloth(t *testing.T) {
	for _, g := range append(samples(), small(9)...) {
		ops, _ := symmetry.All(g)
		if !slices.Contains(ops, 0) || operations%len(ops) != 0 || !slices.IsSorted(ops) {
			t.Fatalf("All: %v, for%s", ops, show(g))
		}
		for _, a := range ops {
			if back, _ := symmetry.Inverse(a); !slices.Contains(ops, back) {
				t.Fatalf("All: %v, without the inverse of %d, for%s", ops, a, show(g))
			}
			for _, b := range ops {
				if op, _ := symmetry.Compose(a, b); !slices.Contains(ops, op) {
					t.Fatalf("All: %v, without the composition of %d and %d, for%s", ops, a, b, show(g))
				}
			}
		}
	}
}

// P7.4: cloths are alike by as many operations as the first one has, or by none,
// and have the same least form exactly if they are alike.
func TestAlikeCloths(t *testing.T) {
	for _, all := range [][]api.Grid{samples(), small(5)} {
		var forms []api.Grid
		for _, g := range all {
			form, _, _ := symmetry.Least(g)
			forms = append(forms, form)
		}
		for i, a := range all {
			own, _ := symmetry.All(a)
			for k, b := range all {
				ops, _ := symmetry.Alike(a, b)
				if len(ops) != 0 && len(ops) != len(own) {
					t.Fatalf("Alike: %v, All: %v, for%sand%s", ops, own, show(a), show(b))
				}
				if grid.Same(forms[i], forms[k]) != (len(ops) > 0) {
					t.Fatalf("Alike: %v, and the least forms%sand%sof%sand%s", ops, show(forms[i]), show(forms[k]), show(a), show(b))
				}
			}
		}
	}
}

// P7.4: also for cloths of other sides, moved and spread.
func TestLeastOfAlikeCloths(t *testing.T) {
	for i, g := range append(samples(), small(8)...) {
		form, _, _ := symmetry.Least(g)
		wide, e := grid.Tile(g, max(1, min(i%3, 16/g.W)), max(1, min(i%4, 16/g.H)))
		if e != api.OK {
			t.Fatalf("Tile: %d", e)
		}
		for op := range operations {
			moved, _ := grid.Shift(applied(wide, op), i+op, i-op)
			other, _, e := symmetry.Least(moved)
			wantGrid(t, "Least of"+show(moved), other, e, form)
		}
	}
}

// P7.4
func TestLeastOfLeast(t *testing.T) {
	for _, g := range append(samples(), small(9)...) {
		form, _, _ := symmetry.Least(g)
		wantLeast(t, form, form, 0)
	}
}
