package repeat_test

import (
	"math"
	"math/big"
	"slices"
	"strings"
	"testing"

	"raddle/api"
	"raddle/grid"
	"raddle/repeat"
)

// read returns the grid with a text.
func read(t *testing.T, s string) api.Grid {
	t.Helper()
	g, e := grid.Parse(s)
	if e != api.OK {
		t.Fatalf("Parse(%q): %d", s, e)
	}
	return g
}

// show returns the text of a grid on lines of their own.
func show(g api.Grid) string {
	s, e := grid.Text(g)
	if e != api.OK {
		return "no grid"
	}
	return "\n" + s
}

// build returns the grid with these sides and cells.
func build(w, h int, up func(x, y int) bool) api.Grid {
	g := api.Grid{W: w, H: h}
	for y := range h {
		for x := range w {
			g.Bits = append(g.Bits, up(x, y))
		}
	}
	return g
}

// blank returns the grid whose cells are all up, or all down.
func blank(w, h int, up bool) api.Grid {
	return build(w, h, func(int, int) bool { return up })
}

// dot returns the grid of which only one cell is up.
func dot(w, h, x, y int) api.Grid {
	return build(w, h, func(i, k int) bool { return i == x && k == y })
}

// random returns a grid whose cells follow no rule.
func random(w, h int) api.Grid {
	seed := uint32(w*100 + h)
	return build(w, h, func(int, int) bool {
		seed = seed*1664525 + 1013904223
		return seed>>30 == 0 || seed>>28 == 9
	})
}

// small returns all grids with up to most cells.
func small(most int) []api.Grid {
	var l []api.Grid
	for w := 1; w <= most; w++ {
		for h := 1; w*h <= most; h++ {
			for v := range 1 << (w * h) {
				l = append(l, build(w, h, func(x, y int) bool { return v>>(y*w+x)&1 == 1 }))
			}
		}
	}
	return l
}

// rest is written otherwise than in the package.
func rest(v, n int) int {
	for v < 0 {
		v += n
	}
	for v >= n {
		v -= n
	}
	return v
}

// up returns the cell (x, y) of the plane of a grid.
func up(g api.Grid, x, y int) bool { return g.Bits[rest(y, g.H)*g.W+rest(x, g.W)] }

// common returns the least common multiple of a and b, by trying.
func common(a, b int) int {
	for n := a; ; n += a {
		if n%b == 0 {
			return n
		}
	}
}

// meets reports whether the plane of b is that of a, if it is moved back by
// the step (dx, dy), as the document says it.
func meets(a, b api.Grid, dx, dy int) bool {
	w, h := common(a.W, b.W), common(a.H, b.H)
	for y := range h {
		for x := range w {
			if up(a, x, y) != up(b, x+dx, y+dy) {
				return false
			}
		}
	}
	return true
}

// latticeOf finds the lattice of a grid by its definition.
func latticeOf(g api.Grid) api.Lattice {
	l := api.Lattice{A: 1, C: 1}
	for !meets(g, g, l.A, 0) {
		l.A++
	}
	for ; ; l.C++ {
		for l.B = 0; l.B < g.W; l.B++ {
			if meets(g, g, l.B, l.C) {
				return l
			}
		}
	}
}

// steps returns the steps of a lattice with dx and dy from -far to far, by its
// definition.
func steps(l api.Lattice, far int) map[api.Point]bool {
	m := map[api.Point]bool{}
	for n := -far; n <= far; n++ {
		for k := -far * (l.B + 1); k <= far*(l.B+1); k++ {
			p := api.Point{X: k*l.A + n*l.B, Y: n * l.C}
			if max(p.X, -p.X, p.Y, -p.Y) <= far {
				m[p] = true
			}
		}
	}
	return m
}

// height returns the least height for which (0, height) is a step of a
// lattice.
func height(l api.Lattice) int {
	n := 1
	for n*l.B%l.A != 0 {
		n++
	}
	return n * l.C
}

// lattices returns all lattices that a grid with up to most columns and rows
// can have.
func lattices(most int) []api.Lattice {
	var all []api.Lattice
	for a := 1; a <= most; a++ {
		for c := 1; c <= most; c++ {
			for b := range a {
				if l := (api.Lattice{A: a, B: b, C: c}); height(l) <= most {
					all = append(all, l)
				}
			}
		}
	}
	return all
}

// ofLattice returns the grid with the sides of which those cells are up that
// are steps of the lattice, or moved by (x, y) from one.
func ofLattice(l api.Lattice, w, h, x, y int) api.Grid {
	return build(w, h, func(i, k int) bool {
		i, k = i-x, k-y
		n := k / l.C
		return n*l.C == k && rest(i-n*l.B, l.A) == 0
	})
}

// samples returns grids of many sizes and lattices, the least and the greatest
// ones too.
func samples() []api.Grid {
	l := []api.Grid{
		blank(1, 1, false), blank(1, 1, true), blank(64, 64, false), blank(64, 64, true),
		blank(1, 64, true), blank(64, 1, false), blank(63, 64, true), blank(7, 5, false),
		dot(64, 64, 63, 63), dot(64, 64, 0, 0), dot(1, 64, 0, 9), dot(64, 1, 63, 0), dot(63, 64, 2, 60), dot(6, 9, 5, 8),
		build(64, 64, func(x, y int) bool { return (x+y)%64 < 32 }),
		build(64, 64, func(x, y int) bool { return (x-3*y)%8 == 0 }),
		build(64, 64, func(x, y int) bool { return x/8%2 != y/16%2 }),
		build(60, 60, func(x, y int) bool { return (x+4*(y/5))%12 == y%5 }),
		build(64, 64, func(x, y int) bool { return (x+y)%2 == 0 }),
		build(1, 64, func(x, y int) bool { return y%16 < 3 }),
		build(64, 1, func(x, y int) bool { return x%32 < 3 }),
	}
	for _, s := range [][2]int{{2, 2}, {3, 2}, {5, 7}, {1, 12}, {12, 1}, {64, 3}, {2, 64}, {64, 64}, {63, 64}, {64, 63}} {
		l = append(l, random(s[0], s[1]))
	}
	for _, c := range []api.Lattice{
		{A: 2, B: 1, C: 1}, {A: 3, B: 2, C: 2}, {A: 4, B: 0, C: 3}, {A: 4, B: 2, C: 5}, {A: 5, B: 2, C: 1},
		{A: 6, B: 4, C: 2}, {A: 8, B: 6, C: 1}, {A: 12, B: 9, C: 3},
	} {
		w, h := 64/c.A*c.A, 64/height(c)*height(c)
		cell := random(c.A, c.C)
		l = append(l, build(w, h, func(x, y int) bool { return up(cell, x-y/c.C*c.B, y) }))
	}
	return l
}

func TestExamples(t *testing.T) {
	plain, other := read(t, ".x\nx.\n"), read(t, "x.\n.x\n")
	if l, e := repeat.Of(plain); l != (api.Lattice{A: 2, B: 1, C: 1}) || e != api.OK {
		t.Errorf("Of: %v, %d", l, e)
	}
	cell, e := repeat.Cell(plain)
	if show(cell) != "\nx.\n" || e != api.OK {
		t.Errorf("Cell: %s, %d", show(cell), e)
	}
	if g, e := repeat.Spread(cell, 1, 2, 2); show(g) != "\n.x\nx.\n" || e != api.OK {
		t.Errorf("Spread: %s, %d", show(g), e)
	}
	if w, h, e := repeat.Rect(plain); w != 2 || h != 2 || e != api.OK {
		t.Errorf("Rect: %d, %d, %d", w, h, e)
	}
	if p, e := repeat.Offset(plain, other); p != (api.Point{X: 1}) || e != api.OK {
		t.Errorf("Offset: %v, %d", p, e)
	}
	for _, dx := range []int{2, 1, 1} {
		if is, e := repeat.Is(plain, dx, 2-dx); !is || e != api.OK {
			t.Errorf("Is(%d, %d): %v, %d", dx, 2-dx, is, e)
		}
	}
	if l, e := repeat.Of(blank(5, 3, false)); l != (api.Lattice{A: 1, C: 1}) || e != api.OK {
		t.Errorf("Of a grid without a cell that is up: %v, %d", l, e)
	}
}

// wantIs checks whether a step is a repeat of a grid.
func wantIs(t *testing.T, g api.Grid, dx, dy int, want bool) {
	t.Helper()
	if is, e := repeat.Is(g, dx, dy); is != want || e != api.OK {
		t.Fatalf("Is(%d, %d): %v, %d, want %v, for%s", dx, dy, is, e, want, show(g))
	}
}

// P6.1
func TestIsOfAllSmallGrids(t *testing.T) {
	for _, g := range small(8) {
		for dy := -g.H - 1; dy <= 2*g.H+1; dy++ {
			for dx := -g.W - 1; dx <= 2*g.W+1; dx++ {
				wantIs(t, g, dx, dy, meets(g, g, dx, dy))
			}
		}
	}
}

// P6.1
func TestIs(t *testing.T) {
	near := []int{0, 1, 2, 3, 4, 5, 6, 8, 12, 15, 16, 32, 48, 60, 63, 64, 65, 128, 1000, -1, -2, -3, -12, -32, -63, -64, -65}
	for _, g := range samples() {
		for _, dx := range near {
			for _, dy := range near {
				wantIs(t, g, dx, dy, meets(g, g, dx, dy))
			}
		}
	}
}

// far returns steps near the least and the greatest integers.
func far() []int {
	var l []int
	for i := range 9 {
		l = append(l, math.MinInt+i, math.MaxInt-i)
	}
	return append(l, math.MinInt/2, math.MaxInt/2, math.MaxInt/3, 1<<32, -1<<32, 1<<31-1, 0, 1, -1, 7)
}

// bigRest returns v modulo n, with numbers that have no greatest one.
func bigRest(v, n int) int {
	return int(new(big.Int).Mod(big.NewInt(int64(v)), big.NewInt(int64(n))).Int64())
}

// P6.1: any dx and dy.
func TestIsFar(t *testing.T) {
	for _, g := range append(samples(), small(4)...) {
		for _, dx := range far() {
			for _, dy := range far() {
				wantIs(t, g, dx, dy, meets(g, g, bigRest(dx, g.W), bigRest(dy, g.H)))
			}
		}
	}
}

// wantOf checks the lattice of a grid.
func wantOf(t *testing.T, g api.Grid, want api.Lattice) {
	t.Helper()
	if l, e := repeat.Of(g); l != want || e != api.OK {
		t.Fatalf("Of: %v, %d, want %v, for%s", l, e, want, show(g))
	}
}

// P6.1
func TestOfAllSmallGrids(t *testing.T) {
	for _, g := range small(12) {
		wantOf(t, g, latticeOf(g))
	}
}

// P6.1
func TestOf(t *testing.T) {
	for _, g := range samples() {
		wantOf(t, g, latticeOf(g))
	}
	for want, texts := range map[api.Lattice][]string{
		{A: 1, B: 0, C: 1}: {".\n", "x\n", "..\n..\n", "xx\nxx\nxx\n", "x\nx\n", "...\n"},
		{A: 1, B: 0, C: 2}: {"x\n.\n", "..\nxx\n", "x\n.\nx\n.\n"},
		{A: 2, B: 0, C: 1}: {"x.\n", "x.\nx.\n", "x.x.\nx.x.\n"},
		{A: 2, B: 1, C: 1}: {"x.\n.x\n", "x.x.\n.x.x\n"},
		{A: 2, B: 1, C: 2}: {"x.\nx.\n.x\n.x\n"},
		{A: 3, B: 0, C: 2}: {"x..\n.x.\n", "x..x..\n.x..x.\n"},
		{A: 4, B: 1, C: 1}: {"x..x\n..xx\n.xx.\nxx..\n"},
		{A: 4, B: 3, C: 1}: {"xx..\n.xx.\n..xx\nx..x\n"},
		{A: 4, B: 2, C: 1}: {"xx..\n..xx\n", "xx..xx..\n..xx..xx\n"},
		{A: 5, B: 2, C: 1}: {"...x.\n.x...\n....x\n..x..\nx....\n"},
		{A: 5, B: 3, C: 1}: {"..x..\n....x\n.x...\n...x.\nx....\n"},
	} {
		for _, s := range texts {
			wantOf(t, read(t, s), want)
		}
	}
}

// P6.1: of the lattices that grids have, up to the greatest sides.
func TestOfManyLattices(t *testing.T) {
	for i, l := range lattices(api.MaxSide) {
		if max(l.A, l.C) > 16 && i%5 > 0 {
			continue
		}
		wantOf(t, ofLattice(l, l.A, height(l), i%l.A, i%l.C), l)
	}
	for _, l := range lattices(16) {
		w, h := 64/l.A*l.A, 64/height(l)*height(l)
		g := ofLattice(l, w, h, 0, 0)
		wantOf(t, g, l)
		not, _ := grid.Not(g)
		wantOf(t, not, l)
	}
}

// P6.1
func TestCheck(t *testing.T) {
	numbers := []int{math.MinInt, math.MinInt + 1, -64, -1, 0, 1, 2, 3, 31, 62, 63, 64, 65, 128, math.MaxInt - 1, math.MaxInt}
	for _, a := range numbers {
		for _, b := range numbers {
			for _, c := range numbers {
				want := api.OK
				if a < 1 || a > 64 || c < 1 || c > 64 || b < 0 || b > 63 || b >= a {
					want = api.ErrBad
				}
				if e := repeat.Check(api.Lattice{A: a, B: b, C: c}); e != want {
					t.Errorf("Check of %d, %d, %d: %d, want %d", a, b, c, e, want)
				}
			}
		}
	}
}

// wantIn checks whether a step is one of a lattice.
func wantIn(t *testing.T, l api.Lattice, dx, dy int, want bool) {
	t.Helper()
	if in, e := repeat.In(l, dx, dy); in != want || e != api.OK {
		t.Fatalf("In(%v, %d, %d): %v, %d, want %v", l, dx, dy, in, e, want)
	}
}

// P6.1
func TestIn(t *testing.T) {
	const most = 14
	for a := 1; a <= 7; a++ {
		for b := range a {
			for c := 1; c <= 7; c++ {
				l := api.Lattice{A: a, B: b, C: c}
				all := steps(l, most)
				for dx := -most; dx <= most; dx++ {
					for dy := -most; dy <= most; dy++ {
						wantIn(t, l, dx, dy, all[api.Point{X: dx, Y: dy}])
					}
				}
			}
		}
	}
}

// bigIn finds out whether a step is one of a lattice, with numbers that have no
// greatest one.
func bigIn(l api.Lattice, dx, dy int) bool {
	n, over := new(big.Int).DivMod(big.NewInt(int64(dy)), big.NewInt(int64(l.C)), new(big.Int))
	if over.Sign() != 0 {
		return false
	}
	x := n.Mul(n, big.NewInt(int64(l.B)))
	x.Sub(big.NewInt(int64(dx)), x)
	return x.Mod(x, big.NewInt(int64(l.A))).Sign() == 0
}

// P6.1: the steps are far away, and the lattices are great ones, too.
func TestInFar(t *testing.T) {
	all := lattices(api.MaxSide)
	l := append(lattices(7), all[len(all)-50:]...)
	for _, a := range []int{1, 2, 3, 5, 7, 31, 60, 63, 64} {
		for _, b := range []int{0, 1, a / 2, a - 1} {
			for _, c := range []int{1, 2, 3, 7, 63, 64} {
				if b < a {
					l = append(l, api.Lattice{A: a, B: b, C: c})
				}
			}
		}
	}
	found := 0
	for _, l := range l {
		for _, dx := range far() {
			for _, dy := range far() {
				want := bigIn(l, dx, dy)
				wantIn(t, l, dx, dy, want)
				if want {
					found++
				}
			}
		}
	}
	if found < 10000 {
		t.Errorf("only %d of the steps were some of a lattice", found)
	}
}

// wantGrid checks a grid that came without an error.
func wantGrid(t *testing.T, what string, g api.Grid, e api.Errno, want api.Grid) {
	t.Helper()
	if e != api.OK || grid.Check(g) != api.OK || !grid.Same(g, want) {
		t.Fatalf("%s: %d by %d, %d,%s\nwant%s", what, g.W, g.H, e, show(g), show(want))
	}
}

// P6.2
func TestCell(t *testing.T) {
	for _, g := range append(samples(), small(10)...) {
		l := latticeOf(g)
		cell, e := repeat.Cell(g)
		wantGrid(t, "Cell", cell, e, build(l.A, l.C, func(x, y int) bool { return up(g, x, y) }))
	}
	for s, want := range map[string]string{
		".\n": ".\n", "x\n": "x\n", "xx\nxx\n": "x\n", "x\nx\n.\n": "x\nx\n.\n", ".x.x\n": ".x\n",
		"x.x.\n.x.x\n": ".x\n", "x..x\n..xx\n.xx.\nxx..\n": "xx..\n", ".x\n.x\nx.\nx.\n": "x.\nx.\n",
	} {
		cell, e := repeat.Cell(read(t, s))
		wantGrid(t, "Cell", cell, e, read(t, want))
	}
}

// spread returns a cell spread, as the document says it.
func spread(cell api.Grid, b, w, h int) api.Grid {
	return build(w, h, func(x, y int) bool {
		k := 0
		for (k+1)*cell.H <= y {
			k++
		}
		return cell.Bits[(y-k*cell.H)*cell.W+rest(x-b*k, cell.W)]
	})
}

// P6.2: the sides are no multiples of those of the cell, too.
func TestSpread(t *testing.T) {
	for _, cell := range append(samples(), small(6)...) {
		for _, b := range []int{0, 1, 2, cell.W / 2, cell.W - 2, cell.W - 1} {
			if b < 0 || b >= cell.W {
				continue
			}
			for _, w := range []int{1, 2, 5, 7, cell.W, 63, 64} {
				for _, h := range []int{1, 3, 4, 11, cell.H, 63, 64} {
					g, e := repeat.Spread(cell, b, w, h)
					wantGrid(t, "Spread", g, e, spread(cell, b, w, h))
				}
			}
		}
	}
	for _, k := range []struct {
		cell    string
		b, w, h int
		want    string
	}{
		{"x..\n", 0, 4, 2, "x..x\nx..x\n"},
		{"x..\n", 1, 5, 4, "x..x.\n..x..\n.x..x\nx..x.\n"},
		{"x..\n", 2, 4, 3, ".x..\n..x.\nx..x\n"},
		{"x..\nxx.\n", 1, 3, 5, "x.x\n.x.\n.xx\nx..\nxx.\n"},
		{"xx.\n...\nx..\n", 2, 2, 2, "..\nx.\n"},
		{"x\n.\n", 0, 1, 5, ".\nx\n.\nx\n.\n"},
	} {
		g, e := repeat.Spread(read(t, k.cell), k.b, k.w, k.h)
		wantGrid(t, "Spread", g, e, read(t, k.want))
	}
}

// P6.2
func TestRect(t *testing.T) {
	for _, g := range append(samples(), small(10)...) {
		l := latticeOf(g)
		if w, h, e := repeat.Rect(g); w != l.A || h != height(l) || e != api.OK {
			t.Fatalf("Rect: %d, %d, %d, want %d, %d, for%s", w, h, e, l.A, height(l), show(g))
		}
	}
	for s, want := range map[string][2]int{
		".\n": {1, 1}, "xxx\nxxx\n": {1, 1}, "x..\nx..\n": {3, 1}, "x..\n...\n": {3, 2}, "x\n.\n.\n": {1, 3},
		"x..x\n..xx\n.xx.\nxx..\n": {4, 4}, "xx..\n..xx\n": {4, 2}, "xx..\nxx..\n..xx\n..xx\n": {4, 4},
		"x.x.\n.x.x\nx.x.\n.x.x\n": {2, 2}, "x...\n....\n..x.\n....\n": {4, 4},
	} {
		if w, h, e := repeat.Rect(read(t, s)); [2]int{w, h} != want || e != api.OK {
			t.Errorf("Rect of %q: %d, %d, %d, want %v", s, w, h, e, want)
		}
	}
	for _, l := range lattices(24) {
		g := ofLattice(l, 48/l.A*l.A, 48/height(l)*height(l), l.A/2, 0)
		if w, h, e := repeat.Rect(g); w != l.A || h != height(l) || e != api.OK {
			t.Fatalf("Rect of a grid with the lattice %v: %d, %d, %d", l, w, h, e)
		}
	}
}

// leastOffset finds an offset by its definition: a step that reaches over the
// sides of b is no less than one that does not.
func leastOffset(a, b api.Grid) (p api.Point, found bool) {
	for y := range b.H {
		for x := range b.W {
			if meets(a, b, x, y) {
				return api.Point{X: x, Y: y}, true
			}
		}
	}
	return api.Point{}, false
}

// wantOffset checks the offset of two grids.
func wantOffset(t *testing.T, a, b api.Grid, want api.Point, found bool) {
	t.Helper()
	e := api.OK
	if !found {
		e = api.ErrNone
	}
	if p, f := repeat.Offset(a, b); p != want || f != e {
		t.Fatalf("Offset: %v, %d, want %v, %d, of%s\nand%s", p, f, want, e, show(a), show(b))
	}
}

// P6.3
func TestOffsetOfAllSmallGrids(t *testing.T) {
	grids := small(6)
	for _, a := range grids {
		for _, b := range grids {
			want, found := leastOffset(a, b)
			wantOffset(t, a, b, want, found)
		}
	}
}

// P6.3
func TestOffset(t *testing.T) {
	for _, g := range samples() {
		for _, p := range []api.Point{{}, {X: 1}, {Y: 1}, {X: 2, Y: 3}, {X: 63, Y: 63}, {X: -5, Y: 7}} {
			moved, _ := grid.Shift(g, p.X, p.Y)
			want, found := leastOffset(g, moved)
			if !found {
				t.Fatal("a grid that was moved has an offset")
			}
			wantOffset(t, g, moved, want, found)
		}
	}
}

// P6.3: the planes are the same, or moved, although the sides differ.
func TestOffsetOfOtherSides(t *testing.T) {
	for _, g := range samples() {
		w, h, _ := repeat.Rect(g)
		least, _ := grid.Part(g, 0, 0, w, h)
		wantOffset(t, g, least, api.Point{}, true)
		wantOffset(t, least, g, api.Point{}, true)
		for _, n := range []int{1, 2, 3, 5} {
			wide, e := grid.Tile(least, n, 1)
			if e != api.OK {
				continue
			}
			for _, p := range []api.Point{{}, {X: 1, Y: 1}, {X: w - 1, Y: h - 1}, {X: w / 2}} {
				moved, _ := grid.Shift(wide, p.X, p.Y)
				want, found := leastOffset(g, moved)
				if !found {
					t.Fatal("a grid that was moved has an offset")
				}
				wantOffset(t, g, moved, want, true)
			}
		}
	}
	wantOffset(t, blank(64, 63, true), blank(63, 64, true), api.Point{}, true)
	wantOffset(t, blank(1, 1, false), blank(64, 64, false), api.Point{}, true)
}

// P6.3: of several offsets, the least one, by Y first.
func TestLeastOffset(t *testing.T) {
	for _, k := range []struct {
		a, b string
		want api.Point
	}{
		// (0, 1) and (1, 0) are both offsets, and so are steps with Y less than 0.
		{".x\nx.\n", "x.\n.x\n", api.Point{X: 1}},
		{"x.\n.x\n", ".x\nx.\n", api.Point{X: 1}},
		{"x..\n.x.\n..x\n", ".x.\n..x\nx..\n", api.Point{X: 1}},
		{"x..\n.x.\n..x\n", "..x\nx..\n.x.\n", api.Point{X: 2}},
		{"x...\n....\n", "....\n...x\n", api.Point{X: 3, Y: 1}},
		{"xx..\n..xx\n", "..xx\nxx..\n", api.Point{X: 2}},
		{"x.x.\n....\n", "....\n.x.x\n", api.Point{X: 1, Y: 1}},
		// A row is moved by the rows above it, so Y 0 is not reached with X 0.
		{"x.\nx.\n.x\n.x\n", ".x\nx.\nx.\n.x\n", api.Point{X: 1, Y: 1}},
		{"x.\nx.\n.x\n.x\n", "x.\n.x\n.x\nx.\n", api.Point{Y: 1}},
		{"x..\n", ".x.\n", api.Point{X: 1}},
		{"x\n.\n.\n", ".\nx\n.\n", api.Point{Y: 2}},
	} {
		wantOffset(t, read(t, k.a), read(t, k.b), k.want, true)
	}
}

// P6.3
func TestNoOffset(t *testing.T) {
	for _, k := range [][2]string{
		{".\n", "x\n"}, {"x.\n", "x\n.\n"}, {"x.\n", "x..\n"}, {"x.\n", "x..x\n"}, {"x..\n", "xx.\n"},
		{"x.\n.x\n", "x.\n"}, {"x.\n", "x.\n..\n"}, {"xx.x..\n", "xx..x.\n"}, {"xx..\n..xx\n", "xx..\n.xx.\n..xx\nx..x\n"},
		{"x..x\n..xx\n.xx.\nxx..\n", "xx..\n.xx.\n..xx\nx..x\n"},
		{"...x.\n.x...\n....x\n..x..\nx....\n", "..x..\n....x\n.x...\n...x.\nx....\n"},
	} {
		a, b := read(t, k[0]), read(t, k[1])
		wantOffset(t, a, b, api.Point{}, false)
		wantOffset(t, b, a, api.Point{}, false)
	}
	// Only the last cells differ.
	a := dot(64, 64, 0, 0)
	b := dot(64, 64, 0, 0)
	b.Bits[64*64-1] = true
	wantOffset(t, a, b, api.Point{}, false)
	wantOffset(t, b, a, api.Point{}, false)
	// As many cells are up, and the lattices are the same.
	wantOffset(t, b, build(64, 64, func(x, y int) bool { return x+y == 0 || x == 1 && y == 63 }), api.Point{}, false)
	wantOffset(t, dot(63, 64, 1, 1), dot(64, 64, 1, 1), api.Point{}, false)
	wantOffset(t, dot(64, 63, 1, 1), dot(64, 64, 1, 1), api.Point{}, false)
}

// P6.4: the repeats are exactly the steps of the lattice, and A divides W and C
// divides H.
func TestRepeatsAreStepsOfTheLattice(t *testing.T) {
	for _, g := range append(samples(), small(9)...) {
		l, e := repeat.Of(g)
		if e != api.OK || repeat.Check(l) != api.OK {
			t.Fatalf("Of: %v, %d, for%s", l, e, show(g))
		}
		if g.W%l.A != 0 || g.H%l.C != 0 {
			t.Fatalf("the sides of the lattice %v do not divide %d and %d", l, g.W, g.H)
		}
		for dy := -3; dy <= g.H+3; dy++ {
			for dx := -3; dx <= g.W+3; dx++ {
				is, _ := repeat.Is(g, dx, dy)
				if in, _ := repeat.In(l, dx, dy); in != is {
					t.Fatalf("In(%v, %d, %d) is %v, Is is %v, for%s", l, dx, dy, in, is, show(g))
				}
			}
		}
	}
}

// P6.4: the steps are far away, too.
func TestRepeatsAreStepsOfTheLatticeFar(t *testing.T) {
	for _, g := range samples() {
		l, _ := repeat.Of(g)
		for _, dx := range far() {
			for _, dy := range far() {
				is, _ := repeat.Is(g, dx, dy)
				if in, _ := repeat.In(l, dx, dy); in != is {
					t.Fatalf("In(%v, %d, %d) is %v, Is is %v, for%s", l, dx, dy, in, is, show(g))
				}
			}
		}
	}
}

// P6.4: the least cell, spread, is the grid again.
func TestSpreadOfCell(t *testing.T) {
	for _, g := range append(samples(), small(10)...) {
		l, _ := repeat.Of(g)
		cell, _ := repeat.Cell(g)
		back, e := repeat.Spread(cell, l.B, g.W, g.H)
		wantGrid(t, "Spread of Cell", back, e, g)
	}
}

// P6.4: the least rectangle is a part of the grid that makes the same plane,
// and none with fewer cells and so many columns does.
func TestRectMakesThePlane(t *testing.T) {
	for _, g := range append(samples(), small(9)...) {
		w, h, _ := repeat.Rect(g)
		part, e := grid.Part(g, 0, 0, w, h)
		if e != api.OK {
			t.Fatalf("%d by %d is no part of%s", w, h, show(g))
		}
		if !meets(g, part, 0, 0) {
			t.Fatalf("%d by %d makes another plane than%s", w, h, show(g))
		}
		for low := 1; low < h; low++ {
			if is, _ := repeat.Is(g, 0, low); is {
				t.Fatalf("%d by %d is not the least rectangle of%s", w, h, show(g))
			}
		}
	}
}

// P6.4: two grids with an offset have the same lattice.
func TestOffsetsKeepTheLattice(t *testing.T) {
	try := func(a, b api.Grid) bool {
		_, e := repeat.Offset(a, b)
		if e == api.OK {
			l, _ := repeat.Of(a)
			wantOf(t, b, l)
		}
		return e == api.OK
	}
	grids := small(5)
	for _, a := range grids {
		for _, b := range grids {
			try(a, b)
		}
	}
	for _, g := range samples() {
		moved, _ := grid.Shift(g, 5, 9)
		if !try(g, moved) || !try(moved, g) {
			t.Fatalf("no offset of%s\nand%s", show(g), show(moved))
		}
	}
}

// The order of the lines of a text is that of the rows from the last to the
// first one: a mistake there would show itself in the sign of B.
func TestRowsGoUp(t *testing.T) {
	lines := strings.Split("x....\n.x...\n..x..\n...x.\n....x", "\n")
	wantOf(t, read(t, strings.Join(lines, "\n")+"\n"), api.Lattice{A: 5, B: 4, C: 1})
	slices.Reverse(lines)
	wantOf(t, read(t, strings.Join(lines, "\n")+"\n"), api.Lattice{A: 5, B: 1, C: 1})
}
