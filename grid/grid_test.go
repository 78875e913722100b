package grid_test

import (
	"math"
	"strings"
	"testing"

	"raddle/api"
	"raddle/grid"
)

// read returns the grid with a text.
func read(t *testing.T, s string) api.Grid {
	t.Helper()
	g, e := grid.Parse(s)
	if e != api.OK {
		t.Fatalf("Parse(%q): %v", s, e)
	}
	return g
}

// must returns a grid that comes without an error.
func must(t *testing.T) func(api.Grid, api.Errno) api.Grid {
	return func(g api.Grid, e api.Errno) api.Grid {
		t.Helper()
		if e != api.OK {
			t.Fatalf("error %d", e)
		}
		if f := grid.Check(g); f != api.OK {
			t.Fatalf("the result %v is not valid: %d", g, f)
		}
		return g
	}
}

// up returns the cell (x, y) of a grid.
func up(g api.Grid, x, y int) bool { return g.Bits[y*g.W+x] }

// modulo is written otherwise than in the package, for steps near 0.
func modulo(v, n int) int {
	for v < 0 {
		v += n
	}
	for v >= n {
		v -= n
	}
	return v
}

// pattern returns a grid with no symmetries that a mistake could hide behind.
func pattern(w, h int) api.Grid {
	g := api.Grid{W: w, H: h, Bits: make([]bool, w*h)}
	seed := uint32(w*100 + h)
	for i := range g.Bits {
		seed = seed*1664525 + 1013904223
		g.Bits[i] = seed>>30 == 0 || seed>>28 == 9
	}
	return g
}

// samples returns grids of many sizes, the least and the greatest ones too.
func samples() []api.Grid {
	var l []api.Grid
	for _, s := range [][2]int{
		{1, 1}, {1, 2}, {2, 1}, {2, 2}, {3, 2}, {2, 3}, {5, 7}, {7, 4}, {8, 8},
		{1, 64}, {64, 1}, {63, 64}, {64, 63}, {64, 64},
	} {
		l = append(l, pattern(s[0], s[1]))
	}
	return l
}

// small returns all grids with up to most cells.
func small(most int) []api.Grid {
	var l []api.Grid
	for w := 1; w <= most; w++ {
		for h := 1; w*h <= most; h++ {
			for v := range 1 << (w * h) {
				g := api.Grid{W: w, H: h, Bits: make([]bool, w*h)}
				for i := range g.Bits {
					g.Bits[i] = v>>i&1 == 1
				}
				l = append(l, g)
			}
		}
	}
	return l
}

// wantCells fails unless g is a valid grid with the sides and the cells.
func wantCells(t *testing.T, what string, g api.Grid, w, h int, cell func(x, y int) bool) {
	t.Helper()
	if g.W != w || g.H != h || len(g.Bits) != w*h {
		t.Fatalf("%s: %d by %d with %d cells, want %d by %d", what, g.W, g.H, len(g.Bits), w, h)
	}
	for y := range h {
		for x := range w {
			if up(g, x, y) != cell(x, y) {
				t.Fatalf("%s, %d by %d: wrong cell (%d, %d)", what, w, h, x, y)
			}
		}
	}
}

func TestExamples(t *testing.T) {
	g := api.Grid{W: 3, H: 2, Bits: []bool{true, false, false, false, true, true}}
	if s, e := grid.Text(g); s != ".xx\nx..\n" || e != api.OK {
		t.Errorf("Text: %q, %d", s, e)
	}
	if n, e := grid.Count(g); n != 3 || e != api.OK {
		t.Errorf("Count: %d, %d", n, e)
	}
	if !grid.Same(read(t, ".xx\nx..\n"), g) {
		t.Error("Parse")
	}
	if s, _ := grid.Text(must(t)(grid.Turn(g))); s != ".x\n.x\nx.\n" {
		t.Errorf("Turn: %q", s)
	}
	if s, _ := grid.Text(must(t)(grid.Shift(g, 1, 0))); s != "x.x\n.x.\n" {
		t.Errorf("Shift: %q", s)
	}
}

// P1.1
func TestCheck(t *testing.T) {
	bits := func(n int) []bool { return make([]bool, n) }
	for _, k := range []struct {
		w, h int
		bits []bool
		want api.Errno
	}{
		{1, 1, bits(1), api.OK},
		{1, 64, bits(64), api.OK},
		{64, 1, bits(64), api.OK},
		{64, 64, bits(64 * 64), api.OK},
		{65, 1, bits(65), api.ErrMany},
		{1, 65, bits(65), api.ErrMany},
		{65, 65, nil, api.ErrMany},
		{65, 0, nil, api.ErrMany},
		{-1, 65, nil, api.ErrMany},
		{65, 1, bits(1), api.ErrMany},
		{math.MaxInt, math.MinInt, nil, api.ErrMany},
		{math.MinInt, math.MaxInt, nil, api.ErrMany},
		{0, 0, nil, api.ErrBad},
		{0, 5, nil, api.ErrBad},
		{5, 0, []bool{}, api.ErrBad},
		{-1, -1, bits(1), api.ErrBad},
		{-2, -3, bits(6), api.ErrBad},
		{math.MinInt, math.MinInt, nil, api.ErrBad},
		{2, 3, nil, api.ErrBad},
		{2, 3, bits(5), api.ErrBad},
		{2, 3, bits(7), api.ErrBad},
		{64, 64, bits(64*64 - 1), api.ErrBad},
	} {
		if e := grid.Check(api.Grid{W: k.w, H: k.h, Bits: k.bits}); e != k.want {
			t.Errorf("Check of %d by %d with %d cells: %d, want %d", k.w, k.h, len(k.bits), e, k.want)
		}
	}
}

// P1.1
func TestCount(t *testing.T) {
	for s, want := range map[string]int{
		".\n": 0, "x\n": 1, "..\n..\n": 0, "xx\nxx\n": 4, "x..\n.x.\n": 2,
		strings.Repeat(strings.Repeat("x", 64)+"\n", 64): 4096,
	} {
		if n, e := grid.Count(read(t, s)); n != want || e != api.OK {
			t.Errorf("Count of %q: %d, %d, want %d", s, n, e, want)
		}
	}
}

// P1.1
func TestSame(t *testing.T) {
	one, two := []bool{true, false}, []bool{true, true}
	for _, k := range []struct {
		a, b api.Grid
		want bool
	}{
		{api.Grid{}, api.Grid{}, true},
		{api.Grid{}, api.Grid{Bits: []bool{}}, true},
		{api.Grid{W: -1, H: 99}, api.Grid{W: -1, H: 99, Bits: []bool{}}, true},
		{api.Grid{W: 9, H: 9, Bits: one}, api.Grid{W: 9, H: 9, Bits: []bool{true, false}}, true},
		{api.Grid{W: 2, H: 1, Bits: one}, api.Grid{W: 2, H: 1, Bits: []bool{true, false}}, true},
		{api.Grid{W: 2, H: 1, Bits: one}, api.Grid{W: 2, H: 1, Bits: two}, false},
		{api.Grid{W: 2, H: 1, Bits: two}, api.Grid{W: 1, H: 2, Bits: two}, false},
		{api.Grid{W: 2, H: 1, Bits: two}, api.Grid{W: 2, H: 2, Bits: two}, false},
		{api.Grid{W: 2, H: 1, Bits: two}, api.Grid{W: 1, H: 1, Bits: two}, false},
		{api.Grid{W: 2, H: 1, Bits: one}, api.Grid{W: 2, H: 1, Bits: one[:1]}, false},
		{api.Grid{W: 2, H: 1}, api.Grid{W: 2, H: 1, Bits: []bool{false, false}}, false},
		{api.Grid{W: 1}, api.Grid{}, false},
	} {
		if grid.Same(k.a, k.b) != k.want || grid.Same(k.b, k.a) != k.want {
			t.Errorf("Same(%v, %v): want %v", k.a, k.b, k.want)
		}
	}
}

// P1.2
func TestText(t *testing.T) {
	for _, k := range []struct {
		w, h int
		bits []bool
		want string
	}{
		{1, 1, []bool{true}, "x\n"},
		{1, 1, []bool{false}, ".\n"},
		{2, 1, []bool{true, false}, "x.\n"},
		{1, 3, []bool{true, false, false}, ".\n.\nx\n"},
		{2, 2, []bool{true, false, true, true}, "xx\nx.\n"},
	} {
		if s, e := grid.Text(api.Grid{W: k.w, H: k.h, Bits: k.bits}); s != k.want || e != api.OK {
			t.Errorf("Text: %q, %d, want %q", s, e, k.want)
		}
	}
}

// P1.2: of all short strings, exactly the texts of the grids are read.
func TestParseAllShort(t *testing.T) {
	const letters, most = "x.\nX", 7
	texts := map[string]api.Grid{}
	for _, g := range small(most) {
		s, e := grid.Text(g)
		if e != api.OK {
			t.Fatal(g, e)
		}
		texts[s] = g
	}
	var visit func(s string)
	visit = func(s string) {
		g, e := grid.Parse(s)
		want, ok := texts[s]
		if ok && (e != api.OK || !grid.Same(g, want)) {
			t.Fatalf("Parse(%q): %v, %d", s, g, e)
		}
		if !ok && (e != api.ErrForm || g.W != 0 || g.H != 0 || len(g.Bits) != 0) {
			t.Fatalf("Parse(%q): %v, %d, want an error", s, g, e)
		}
		if len(s) == most {
			return
		}
		for i := range len(letters) {
			visit(s + letters[i:i+1])
		}
	}
	visit("")
}

// P1.2
func TestParseForms(t *testing.T) {
	row := func(n int) string { return strings.Repeat("x", n) + "\n" }
	for _, s := range []string{
		row(1), row(64), strings.Repeat(row(1), 64), strings.Repeat(row(64), 64),
	} {
		if back, e := grid.Text(read(t, s)); back != s || e != api.OK {
			t.Errorf("Text of Parse(%q): %q, %d", s, back, e)
		}
	}
	for _, s := range []string{
		row(65), strings.Repeat(row(1), 65), strings.Repeat(row(64), 65),
		strings.Repeat(row(65), 64), row(64) + row(63), row(2) + "x\nxx\n",
		"x\n.", "x\r\n", "x\n\n", "\n", "\n\n", " x\n", "o\n", "x\x00\n", "*\n",
		"\u00d7\n", "\xff\n", strings.Repeat("x", 1000000), strings.Repeat("\n", 1000000),
	} {
		if g, e := grid.Parse(s); e != api.ErrForm || g.W != 0 || g.H != 0 || g.Bits != nil {
			t.Errorf("Parse(%.20q): %v, %d", s, g, e)
		}
	}
}

// P1.3
func TestNotAndOr(t *testing.T) {
	for _, a := range samples() {
		b := must(t)(grid.Mirror(must(t)(grid.Shift(a, 1, 1)), 0))
		wantCells(t, "Not", must(t)(grid.Not(a)), a.W, a.H, func(x, y int) bool { return !up(a, x, y) })
		wantCells(t, "And", must(t)(grid.And(a, b)), a.W, a.H, func(x, y int) bool { return up(a, x, y) && up(b, x, y) })
		wantCells(t, "Or", must(t)(grid.Or(a, b)), a.W, a.H, func(x, y int) bool { return up(a, x, y) || up(b, x, y) })
	}
	a, b := read(t, "x.x.\n"), read(t, "xx..\n")
	for want, f := range map[string]func(a, b api.Grid) (api.Grid, api.Errno){
		"x...\n": grid.And, "xxx.\n": grid.Or,
	} {
		if s, _ := grid.Text(must(t)(f(a, b))); s != want {
			t.Errorf("%q, want %q", s, want)
		}
	}
}

// P1.3
func TestAndOrOfOtherSides(t *testing.T) {
	a := read(t, "x.\n.x\n")
	for _, s := range []string{"xx\n", "x\nx\n", "xx\nxx\nxx\n", "xxx\nxxx\n", "xxxx\n", "x\nx\nx\nx\n"} {
		for _, f := range []func(a, b api.Grid) (api.Grid, api.Errno){grid.And, grid.Or} {
			b := read(t, s)
			if g, e := f(a, b); e != api.ErrArg || g.Bits != nil {
				t.Errorf("%q: %v, %d", s, g, e)
			}
			if g, e := f(b, a); e != api.ErrArg || g.Bits != nil {
				t.Errorf("%q first: %v, %d", s, g, e)
			}
		}
	}
}

// P1.4
func TestTurnMirror(t *testing.T) {
	for _, g := range samples() {
		wantCells(t, "Turn", must(t)(grid.Turn(g)), g.H, g.W, func(x, y int) bool { return up(g, y, x) })
		wantCells(t, "Mirror 0", must(t)(grid.Mirror(g, 0)), g.W, g.H, func(x, y int) bool { return up(g, g.W-1-x, y) })
		wantCells(t, "Mirror 1", must(t)(grid.Mirror(g, 1)), g.W, g.H, func(x, y int) bool { return up(g, x, g.H-1-y) })
		for _, axis := range []int{-1, 2, 3, math.MinInt, math.MaxInt} {
			if h, e := grid.Mirror(g, axis); e != api.ErrArg || h.W != 0 || h.Bits != nil {
				t.Errorf("Mirror along %d: %v, %d", axis, h, e)
			}
		}
	}
}

// P1.4
func TestShift(t *testing.T) {
	steps := []int{0, 1, 2, -1, -2, 7, -7, 63, 64, 65, -64, 1000, -1000}
	for _, g := range samples() {
		for _, dx := range steps {
			for _, dy := range steps {
				wantCells(t, "Shift", must(t)(grid.Shift(g, dx, dy)), g.W, g.H, func(x, y int) bool {
					return up(g, modulo(x-dx, g.W), modulo(y-dy, g.H))
				})
			}
		}
	}
}

// P1.4: the rests of the greatest steps are taken with unsigned numbers here.
func TestShiftFar(t *testing.T) {
	rest := func(d, n int) int {
		if d >= 0 {
			return int(uint64(d) % uint64(n))
		}
		return (n - int(-uint64(d)%uint64(n))) % n
	}
	far := []int{math.MinInt, math.MinInt + 1, math.MinInt + 2, math.MaxInt - 1, math.MaxInt}
	for _, g := range samples() {
		for _, d := range far {
			for _, k := range far {
				wantCells(t, "Shift", must(t)(grid.Shift(g, d, k)), g.W, g.H, func(x, y int) bool {
					return up(g, modulo(x-rest(d, g.W), g.W), modulo(y-rest(k, g.H), g.H))
				})
			}
		}
	}
}

// P1.5
func TestTile(t *testing.T) {
	for _, g := range samples() {
		for nx := 1; nx <= 66; nx++ {
			for _, ny := range []int{1, 2, 3, 64 / g.H, 64/g.H + 1} {
				h, e := grid.Tile(g, nx, ny)
				if nx*g.W > 64 || ny*g.H > 64 {
					if e != api.ErrMany || h.W != 0 || h.Bits != nil {
						t.Fatalf("Tile of %d by %d, %d and %d times: %d", g.W, g.H, nx, ny, e)
					}
					continue
				}
				wantCells(t, "Tile", must(t)(h, e), nx*g.W, ny*g.H, func(x, y int) bool {
					return up(g, modulo(x, g.W), modulo(y, g.H))
				})
			}
		}
	}
}

// P1.5
func TestTileErrors(t *testing.T) {
	g := read(t, "x.\n")
	for _, k := range []struct {
		nx, ny int
		want   api.Errno
	}{
		{0, 1, api.ErrArg}, {1, 0, api.ErrArg}, {-1, 1, api.ErrArg}, {1, -1, api.ErrArg},
		{math.MinInt, 1, api.ErrArg}, {100, 0, api.ErrArg}, {0, 100, api.ErrArg},
		{math.MaxInt, -1, api.ErrArg}, {32, 64, api.OK}, {33, 1, api.ErrMany}, {1, 65, api.ErrMany},
		// Twice these numbers are small ones, if they are not checked.
		{math.MaxInt, 1, api.ErrMany}, {math.MaxInt/2 + 2, 1, api.ErrMany},
		{1, math.MaxInt, api.ErrMany},
	} {
		h, e := grid.Tile(g, k.nx, k.ny)
		if e != k.want || (e != api.OK && (h.W != 0 || h.H != 0 || h.Bits != nil)) {
			t.Errorf("Tile %d and %d times: %v, %d, want %d", k.nx, k.ny, h, e, k.want)
		}
	}
}

// P1.5: all parts of a grid, and all that are not quite in it.
func TestPart(t *testing.T) {
	for _, g := range []api.Grid{pattern(1, 1), pattern(4, 3), pattern(3, 5)} {
		for i := range 7 * 7 * 7 * 7 {
			x, y, w, h := i%7-1, i/7%7-1, i/49%7-1, i/343-1
			p, e := grid.Part(g, x, y, w, h)
			if x < 0 || y < 0 || w < 1 || h < 1 || x+w > g.W || y+h > g.H {
				if e != api.ErrArg || p.W != 0 || p.H != 0 || p.Bits != nil {
					t.Fatalf("Part %d %d %d %d of %d by %d: %v, %d", x, y, w, h, g.W, g.H, p, e)
				}
				continue
			}
			wantCells(t, "Part", must(t)(p, e), w, h, func(i, k int) bool { return up(g, x+i, y+k) })
		}
	}
}

// P1.5: sums of these numbers do not fit.
func TestPartFar(t *testing.T) {
	g := pattern(64, 64)
	for _, k := range [][2]int{
		{math.MaxInt, 1}, {1, math.MaxInt}, {math.MaxInt, math.MaxInt}, {math.MinInt, math.MinInt},
		{math.MinInt, 1}, {1, math.MinInt}, {64, 1}, {0, 65}, {63, 2}, {math.MaxInt, math.MinInt},
	} {
		if p, e := grid.Part(g, k[0], 0, k[1], 1); e != api.ErrArg || p.Bits != nil {
			t.Errorf("columns %v: %v, %d", k, p, e)
		}
		if p, e := grid.Part(g, 0, k[0], 1, k[1]); e != api.ErrArg || p.Bits != nil {
			t.Errorf("rows %v: %v, %d", k, p, e)
		}
	}
	if !grid.Same(must(t)(grid.Part(g, 0, 0, 64, 64)), g) {
		t.Error("the whole")
	}
	wantCells(t, "the last cell", must(t)(grid.Part(g, 63, 63, 1, 1)), 1, 1, func(x, y int) bool { return up(g, 63, 63) })
}

// P1.6
func TestConsequences(t *testing.T) {
	must := must(t)
	for _, g := range append(samples(), small(6)...) {
		same := func(what string, a, b api.Grid) {
			t.Helper()
			if !grid.Same(a, b) {
				t.Fatalf("%s: %v", what, g)
			}
		}
		turned := must(grid.Turn(g))
		same("turned twice", must(grid.Turn(turned)), g)
		for axis := range 2 {
			m := must(grid.Mirror(g, axis))
			same("mirrored twice", must(grid.Mirror(m, axis)), g)
			same("axes exchanged", must(grid.Turn(m)), must(grid.Mirror(turned, 1-axis)))
		}
		for _, d := range [][2]int{{1, 0}, {0, 1}, {3, -2}, {-70, 129}, {math.MaxInt, -math.MaxInt}} {
			moved := must(grid.Shift(g, d[0], d[1]))
			same("shifted back", must(grid.Shift(moved, -d[0], -d[1])), g)
			same("steps exchanged", must(grid.Turn(moved)), must(grid.Shift(turned, d[1], d[0])))
			not, notMoved := must(grid.Not(g)), must(grid.Not(moved))
			same("not and", must(grid.Not(must(grid.And(g, moved)))), must(grid.Or(not, notMoved)))
			same("not or", must(grid.Not(must(grid.Or(g, moved)))), must(grid.And(not, notMoved)))
		}
		s, e := grid.Text(g)
		if e != api.OK {
			t.Fatal(g, e)
		}
		same("text read", must(grid.Parse(s)), g)
	}
}
