package double_test

import (
	"slices"
	"testing"

	"raddle/api"
	"raddle/double"
	"raddle/grid"
	"raddle/hang"
	"raddle/layers"
)

// three has what a double cloth is made of.
type three struct {
	a, b, motif api.Grid
}

// read returns the grid with a text.
func read(t *testing.T, s string) api.Grid {
	t.Helper()
	g, e := grid.Parse(s)
	if e != api.OK {
		t.Fatalf("Parse(%q): %d", s, e)
	}
	return g
}

// show returns the texts of grids, each on lines of their own.
func show(grids ...api.Grid) string {
	all := ""
	for _, g := range grids {
		s, e := grid.Text(g)
		if e != api.OK {
			s = "no grid\n"
		}
		all += "\n" + s
	}
	return all
}

// build returns the grid with these sides and cells.
func build(w, h int, up func(x, y int) bool) api.Grid {
	g := api.Grid{W: w, H: h}
	for y := range h {
		for x := range w {
			g.Bits = append(g.Bits, up(x, y))
		}
	}
	return g
}

// blank returns the grid whose cells are all up, or all down.
func blank(w, h int, isUp bool) api.Grid {
	return build(w, h, func(int, int) bool { return isUp })
}

// but returns the grid whose cells are all up, or all down, but for one cell.
func but(w, h, x, y int, isUp bool) api.Grid {
	return build(w, h, func(i, k int) bool { return isUp != (i == x && k == y) })
}

// plain returns a grid of which each cell is unlike the ones beside it.
func plain(w, h int) api.Grid {
	return build(w, h, func(x, y int) bool { return (x+y)%2 == 0 })
}

// twill returns the grid in which each pick is the one before it, moved by one,
// with over cells side by side that are up.
func twill(w, h, over int) api.Grid {
	return build(w, h, func(x, y int) bool { return ((x-y)%w+w)%w < over })
}

// random returns a grid whose cells follow no rule.
func random(w, h int, seed uint32) api.Grid {
	return build(w, h, func(int, int) bool {
		seed = seed*1664525 + 1013904223
		return seed>>31 == 1
	})
}

// all returns all grids with these sides.
func all(w, h int) []api.Grid {
	var l []api.Grid
	for v := range 1 << (w * h) {
		l = append(l, build(w, h, func(x, y int) bool { return v>>(y*w+x)&1 == 1 }))
	}
	return l
}

// some returns grids with these sides of many kinds.
func some(w, h int) []api.Grid {
	return []api.Grid{
		blank(w, h, true), blank(w, h, false), plain(w, h), twill(w, h, max(1, w/2)), random(w, h, 1), random(w, h, 2), random(w, h, 3),
		but(w, h, 0, 0, true), but(w, h, w-1, h-1, false), but(w, h, w-1, 0, true), but(w, h, w/2, h/2, false),
	}
}

// smallThrees returns all threes of grids of up to four cells.
func smallThrees() []three {
	var l []three
	for _, s := range [][2]int{{1, 1}, {1, 2}, {2, 1}, {3, 1}, {1, 3}, {2, 2}, {4, 1}, {1, 4}} {
		grids := all(s[0], s[1])
		for _, a := range grids {
			for _, b := range grids {
				for _, motif := range grids {
					l = append(l, three{a, b, motif})
				}
			}
		}
	}
	return l
}

// threes returns threes of grids with these sides, of which all kinds come at
// all places.
func threes(w, h int) []three {
	var l []three
	grids := some(w, h)
	for i, a := range grids {
		for k, b := range grids {
			l = append(l, three{a, b, grids[(i+2*k)%len(grids)]})
		}
	}
	return l
}

// samples returns all threes of small grids, and some of which the double cloth
// is as great as can be.
func samples() []three {
	l := smallThrees()
	for _, s := range [][2]int{{1, 1}, {1, 32}, {32, 1}, {2, 3}, {3, 2}, {3, 3}, {5, 4}, {4, 5}, {7, 13}, {31, 32}, {32, 31}, {32, 32}} {
		l = append(l, threes(s[0], s[1])...)
	}
	return l
}

// doubleOf returns the double cloth, by the definition.
func doubleOf(m three) api.Grid {
	w, h := m.a.W, m.a.H
	g := blank(2*w, 2*h, false)
	put := func(x, y int, isUp bool) { g.Bits[y*g.W+x] = isUp }
	for y := range h {
		for x := range w {
			put(2*x, 2*y, m.a.Bits[y*w+x])
			put(2*x+1, 2*y+1, m.b.Bits[y*w+x])
			put(2*x, 2*y+1, m.motif.Bits[y*w+x])
			put(2*x+1, 2*y, !m.motif.Bits[y*w+x])
		}
	}
	return g
}

// faceOf returns the face, by the definition.
func faceOf(m three) api.Grid {
	return build(m.a.W, m.a.H, func(x, y int) bool {
		i := y*m.a.W + x
		return m.motif.Bits[i] && m.a.Bits[i] || !m.motif.Bits[i] && m.b.Bits[i]
	})
}

// backOf returns the back, by the definition.
func backOf(g api.Grid) api.Grid {
	return build(g.W, g.H, func(x, y int) bool { return !g.Bits[y*g.W+g.W-1-x] })
}

// tubeOf returns the tube, by the definition.
func tubeOf(g api.Grid) api.Grid { return doubleOf(three{g, backOf(g), blank(g.W, g.H, true)}) }

// changed returns a grid with one cell changed.
func changed(g api.Grid, x, y int) api.Grid {
	return build(g.W, g.H, func(i, k int) bool { return g.Bits[k*g.W+i] != (i == x && k == y) })
}

// wantWeave checks a double cloth.
func wantWeave(t *testing.T, m three, want api.Grid) {
	t.Helper()
	if g, e := double.Weave(m.a, m.b, m.motif); !grid.Same(g, want) || e != api.OK {
		t.Fatalf("Weave: %s, %d, want %s, for%s", show(g), e, show(want), show(m.a, m.b, m.motif))
	}
}

// wantApart checks what a double cloth is made of.
func wantApart(t *testing.T, g api.Grid, want three) {
	t.Helper()
	a, b, motif, e := double.Apart(g)
	if !grid.Same(a, want.a) || !grid.Same(b, want.b) || !grid.Same(motif, want.motif) || e != api.OK {
		t.Fatalf("Apart: %s, %d, want %s, for%s", show(a, b, motif), e, show(want.a, want.b, want.motif), show(g))
	}
}

// wantNotApart checks that a grid is not taken apart.
func wantNotApart(t *testing.T, g api.Grid, want api.Errno) {
	t.Helper()
	a, b, motif, e := double.Apart(g)
	if !isNone(a) || !isNone(b) || !isNone(motif) || e != want {
		t.Fatalf("Apart: %s, %d, want %d, for%s", show(a, b, motif), e, want, show(g))
	}
}

// isNone reports whether a grid is the zero value.
func isNone(g api.Grid) bool { return grid.Same(g, api.Grid{}) }

// wantFace checks the face of a double cloth.
func wantFace(t *testing.T, m three, want api.Grid) {
	t.Helper()
	if g, e := double.Face(m.a, m.b, m.motif); !grid.Same(g, want) || e != api.OK {
		t.Fatalf("Face: %s, %d, want %s, for%s", show(g), e, show(want), show(m.a, m.b, m.motif))
	}
}

// wantBack checks the back of a grid.
func wantBack(t *testing.T, g, want api.Grid) {
	t.Helper()
	if back, e := double.Back(g); !grid.Same(back, want) || e != api.OK {
		t.Fatalf("Back: %s, %d, want %s, for%s", show(back), e, show(want), show(g))
	}
}

// wantTube checks the tube of a grid.
func wantTube(t *testing.T, g, want api.Grid) {
	t.Helper()
	if tube, e := double.Tube(g); !grid.Same(tube, want) || e != api.OK {
		t.Fatalf("Tube: %s, %d, want %s, for%s", show(tube), e, show(want), show(g))
	}
}

func TestExamples(t *testing.T) {
	weave := read(t, ".x\nx.\n")
	over := three{weave, weave, read(t, "xx\nxx\n")}
	wantWeave(t, over, read(t, "x.xx\n..x.\nxxx.\nx...\n"))
	wantApart(t, read(t, "x.xx\n..x.\nxxx.\nx...\n"), over)
	one := three{read(t, "x\n"), read(t, ".\n"), read(t, ".\n")}
	wantWeave(t, one, read(t, "..\nxx\n"))
	wantApart(t, read(t, "..\nxx\n"), one)
	for _, s := range []string{"x.\n.x\n", "x\n", ".\n", "x.\n", "x\n.\n", "xxx\n...\n", "xx\n.x\n..\n", "x.x\n.x.\nx.x\n"} {
		wantNotApart(t, read(t, s), api.ErrNone)
	}
}

// P12.1 and P12.2: each grid at its own place, in its own order.
func TestSomeCloths(t *testing.T) {
	for _, c := range []struct {
		a, b, motif, cloth, face string
	}{
		{"x\n", "x\n", "x\n", "xx\nx.\n", "x\n"},
		{"x\n", ".\n", "x\n", "x.\nx.\n", "x\n"},
		{".\n", "x\n", "x\n", "xx\n..\n", ".\n"},
		{".\n", ".\n", "x\n", "x.\n..\n", ".\n"},
		{"x\n", "x\n", ".\n", ".x\nxx\n", "x\n"},
		{".\n", "x\n", ".\n", ".x\n.x\n", "x\n"},
		{".\n", ".\n", ".\n", "..\n.x\n", ".\n"},
		{"x..\n", ".x.\n", "..x\n", "...xx.\nxx.x..\n", ".x.\n"},
		{"x\n.\n.\n", ".\nx\n.\n", ".\n.\nx\n", "..\nxx\n.x\n.x\nx.\n..\n", ".\nx\n.\n"},
		{"xx.\n..x\n", "x.x\n.xx\n", "x..\nxx.\n", "xx...x\nx.xx.x\nx.xx.x\n....xx\n", "x.x\n..x\n"},
	} {
		m, cloth := three{read(t, c.a), read(t, c.b), read(t, c.motif)}, read(t, c.cloth)
		wantWeave(t, m, cloth)
		wantApart(t, cloth, m)
		wantFace(t, m, read(t, c.face))
	}
}

// P12.1 and P12.3: the double cloth of all small grids and of great ones, and
// what it is made of.
func TestWeaveAndApart(t *testing.T) {
	for _, m := range samples() {
		cloth := doubleOf(m)
		wantWeave(t, m, cloth)
		wantApart(t, cloth, m)
	}
}

// P12.1 and P12.3: all small grids are double cloths, which are woven again, or
// are none.
func TestApartOfAllSmallGrids(t *testing.T) {
	made := map[string]three{}
	for _, m := range smallThrees() {
		made[show(doubleOf(m))] = m
	}
	found := 0
	for _, s := range [][2]int{{2, 2}, {2, 4}, {4, 2}, {6, 2}, {2, 6}, {4, 4}, {1, 1}, {1, 2}, {2, 1}, {1, 3}, {3, 1}, {1, 4}, {4, 1}, {3, 2}, {2, 3}, {3, 3}, {5, 2}, {2, 5}, {4, 3}, {3, 4}} {
		for _, g := range all(s[0], s[1]) {
			m, isDouble := made[show(g)]
			if !isDouble {
				wantNotApart(t, g, api.ErrNone)
				continue
			}
			found++
			wantApart(t, g, m)
			a, b, motif, _ := double.Apart(g)
			wantWeave(t, three{a, b, motif}, g)
		}
	}
	if want := 8 + 2*64 + 2*512 + 4096; found != want {
		t.Errorf("%d grids are double cloths, want %d", found, want)
	}
}

// P12.1: no grid with an odd width, height, or both is a double cloth.
func TestApartOfOddSides(t *testing.T) {
	for _, s := range [][2]int{{1, 1}, {1, 2}, {2, 1}, {1, 64}, {64, 1}, {63, 64}, {64, 63}, {63, 63}, {3, 2}, {2, 3}, {5, 5}, {31, 32}, {32, 31}} {
		for _, g := range some(s[0], s[1]) {
			wantNotApart(t, g, api.ErrNone)
		}
	}
	// Double cloths with the last end, the last pick, or both taken away.
	for _, m := range append(threes(32, 32), threes(2, 3)...) {
		g := doubleOf(m)
		for _, s := range [][2]int{{g.W - 1, g.H}, {g.W, g.H - 1}, {g.W - 1, g.H - 1}} {
			part, _ := grid.Part(g, 0, 0, s[0], s[1])
			wantNotApart(t, part, api.ErrNone)
		}
	}
}

// P12.1: a cell of a or of b that is changed is changed there, and one that the
// motif has makes it no double cloth, but if both of them are changed.
func TestChangedCells(t *testing.T) {
	grids := append(threes(2, 3), threes(1, 1)...)
	grids = append(grids, threes(4, 1)...)
	grids = append(grids, threes(1, 4)...)
	for _, m := range append(grids, threes(32, 32)[:9]...) {
		g := doubleOf(m)
		for y := 0; y < m.a.H; y += max(1, m.a.H/5) {
			for x := 0; x < m.a.W; x += max(1, m.a.W/5) {
				wantApart(t, changed(g, 2*x, 2*y), three{changed(m.a, x, y), m.b, m.motif})
				wantApart(t, changed(g, 2*x+1, 2*y+1), three{m.a, changed(m.b, x, y), m.motif})
				wantNotApart(t, changed(g, 2*x, 2*y+1), api.ErrNone)
				wantNotApart(t, changed(g, 2*x+1, 2*y), api.ErrNone)
				both := changed(changed(g, 2*x, 2*y+1), 2*x+1, 2*y)
				wantApart(t, both, three{m.a, m.b, changed(m.motif, x, y)})
			}
		}
		last := changed(g, g.W-2, g.H-1)
		wantNotApart(t, last, api.ErrNone)
		wantNotApart(t, changed(g, g.W-1, g.H-2), api.ErrNone)
		wantApart(t, changed(last, g.W-1, g.H-2), three{m.a, m.b, changed(m.motif, m.a.W-1, m.a.H-1)})
	}
}

// P12.1 and P12.2: a double cloth and a tube have sides of up to MaxSide, and
// face and back are those of grids that may be as great.
func TestGreatSides(t *testing.T) {
	for _, s := range [][2]int{{32, 32}, {32, 1}, {1, 32}, {31, 32}, {32, 31}, {33, 1}, {1, 33}, {33, 32}, {32, 33}, {33, 33}, {64, 1}, {1, 64}, {64, 32}, {32, 64}, {64, 64}, {63, 64}} {
		isGreat := s[0] > 32 || s[1] > 32
		for _, m := range threes(s[0], s[1])[:40] {
			wantFace(t, m, faceOf(m))
			wantBack(t, m.a, backOf(m.a))
			if !isGreat {
				wantWeave(t, m, doubleOf(m))
				wantTube(t, m.a, tubeOf(m.a))
				continue
			}
			wantNoWeave(t, m, api.ErrMany)
			wantNoTube(t, m.a, api.ErrMany)
		}
	}
}

// P12.2: the face of all small grids and of great ones.
func TestFace(t *testing.T) {
	for _, m := range samples() {
		wantFace(t, m, faceOf(m))
	}
}

// P12.2: mirrored from side to side only, with up and down exchanged.
func TestBackOfSomeCloths(t *testing.T) {
	for cloth, back := range map[string]string{
		"x\n":                      ".\n",
		".\n":                      "x\n",
		"x.\n":                     "x.\n",
		"xx\n":                     "..\n",
		"x\n.\n":                   ".\nx\n",
		"x\n.\n.\n":                ".\nx\nx\n",
		"x..\n":                    "xx.\n",
		"xx.\nx..\n...\n":          "x..\nxx.\nxxx\n",
		".x\nx.\n":                 ".x\nx.\n",
		"x..x\n..xx\n.xx.\nxx..\n": ".xx.\n..xx\nx..x\nxx..\n",
	} {
		wantBack(t, read(t, cloth), read(t, back))
	}
}

// P12.2 and P12.3: the back of all small grids and of great ones, and that of
// the back.
func TestBack(t *testing.T) {
	var grids []api.Grid
	for _, s := range [][2]int{{1, 1}, {1, 5}, {5, 1}, {2, 2}, {2, 3}, {3, 2}, {3, 3}, {2, 5}, {5, 2}, {3, 4}} {
		grids = append(grids, all(s[0], s[1])...)
	}
	for _, s := range [][2]int{{1, 64}, {64, 1}, {64, 64}, {63, 64}, {64, 63}, {17, 5}} {
		grids = append(grids, some(s[0], s[1])...)
	}
	for _, g := range grids {
		wantBack(t, g, backOf(g))
		back, _ := double.Back(g)
		wantBack(t, back, g)
	}
}

// P12.2: of one cell, one column, one row, and of more.
func TestTubeOfSomeCloths(t *testing.T) {
	for cloth, tube := range map[string]string{
		"x\n":        "x.\nx.\n",
		".\n":        "xx\n..\n",
		"x.\n":       "xxx.\nx...\n",
		"x..\n":      "xxxxx.\nx.....\n",
		"x\n.\n.\n":  "x.\nx.\nxx\n..\nxx\n..\n",
		".x\nx.\n":   "x.xx\n..x.\nxxx.\nx...\n",
		"xx.\n...\n": "xxx.x.\nx.x...\nxxxxxx\n......\n",
	} {
		wantTube(t, read(t, cloth), read(t, tube))
	}
}

// P12.2: the tube of all small grids and of great ones is taken apart into the
// grid, its back, and a motif in which all cells are up.
func TestTube(t *testing.T) {
	for _, m := range samples() {
		wantTube(t, m.a, tubeOf(m.a))
		tube, _ := double.Tube(m.a)
		wantApart(t, tube, three{m.a, backOf(m.a), blank(m.a.W, m.a.H, true)})
	}
}

// whole returns those cloths that hang together.
func whole(t *testing.T, grids []api.Grid) []api.Grid {
	t.Helper()
	var l []api.Grid
	for _, g := range grids {
		if hangs, _ := hang.Hangs(g); hangs {
			l = append(l, g)
		}
	}
	if len(l) < 2 {
		t.Fatalf("only %d cloths hang together", len(l))
	}
	return l
}

// wholeThrees returns threes of which the first two hang together: all small
// ones, and some great ones.
func wholeThrees(t *testing.T) []three {
	var l []three
	for _, s := range [][2]int{{2, 2}, {2, 3}, {3, 2}, {2, 4}, {4, 2}, {3, 3}} {
		grids := whole(t, all(s[0], s[1]))
		motifs := append(all(s[0], s[1])[:16], some(s[0], s[1])...)
		motifs = append(motifs, but(s[0], s[1], 0, 0, false), but(s[0], s[1], 0, s[1]-1, true))
		for i, a := range grids {
			for k, b := range grids {
				// Not all pairs, if there are many, but all pairs of kinds.
				if len(grids) > 10 && (i+k)%(len(grids)/5) != 0 {
					continue
				}
				for _, motif := range motifs {
					l = append(l, three{a, b, motif})
				}
			}
		}
	}
	for _, s := range [][2]int{{32, 32}, {31, 30}, {2, 32}, {32, 2}, {5, 7}} {
		not, _ := grid.Not(plain(s[0], s[1]))
		grids := whole(t, append(some(s[0], s[1]), not))
		for i, motif := range some(s[0], s[1]) {
			l = append(l, three{grids[i%len(grids)], grids[(i+1)%len(grids)], motif})
		}
	}
	return l
}

// P12.3: the double cloth of two cloths that hang together does exactly if the
// motif has a cell that is up and one that is down.
func TestHangsTogetherIfTheyChangePlaces(t *testing.T) {
	seen := map[bool]int{}
	for _, m := range wholeThrees(t) {
		g, _ := double.Weave(m.a, m.b, m.motif)
		ups, _ := grid.Count(m.motif)
		want := ups > 0 && ups < m.a.W*m.a.H
		if hangs, e := hang.Hangs(g); hangs != want || e != api.OK {
			t.Fatalf("Hangs: %v, %d, want %v, for%s", hangs, e, want, show(m.a, m.b, m.motif))
		}
		if parts, e := layers.Parts(g); (len(parts) == 1) != want || e != api.OK {
			t.Fatalf("Parts: %v, %d, for%s", parts, e, show(m.a, m.b, m.motif))
		}
		seen[want]++
	}
	if seen[true] < 100 || seen[false] < 100 {
		t.Errorf("%d double cloths hang together, and %d do not", seen[true], seen[false])
	}
}

// P12.3: if the motif has the same cell everywhere, there are two layers, a and
// b; a is on top if the motif is up, and so its threads come off.
func TestLayersOfDoubleCloths(t *testing.T) {
	tops := map[bool]int{}
	for _, m := range wholeThrees(t) {
		ups, _ := grid.Count(m.motif)
		if ups > 0 && ups < m.a.W*m.a.H {
			continue
		}
		upper, lower := m.a, m.b
		if ups == 0 {
			upper, lower = m.b, m.a
		}
		g, _ := double.Weave(m.a, m.b, m.motif)
		top, bottom, e := layers.Split(g, 1)
		if first := top[0]; (first == 0) != (ups > 0) || e != api.OK {
			t.Fatalf("%v is on top, for%s", top, show(m.a, m.b, m.motif))
		}
		wantLayer(t, g, top, upper)
		wantLayer(t, g, bottom, lower)
		if off, e := hang.Off(g, top); !off || e != api.OK {
			t.Fatalf("%v does not come off, for%s", top, show(m.a, m.b, m.motif))
		}
		if set, e := hang.Apart(g); !slices.Equal(set, top) || e != api.OK {
			t.Fatalf("%v comes off first, want %v, for%s", set, top, show(m.a, m.b, m.motif))
		}
		if l, e := layers.Layers(g); len(l) != 2 || e != api.OK {
			t.Fatalf("the layers are %v, for%s", l, show(m.a, m.b, m.motif))
		}
		tops[ups > 0]++
	}
	if tops[true] < 100 || tops[false] < 100 {
		t.Errorf("of %d cloths, a is on top, and of %d, b", tops[true], tops[false])
	}
}

// wantLayer checks the cloth of a layer, whose threads all have even numbers, or
// odd ones.
func wantLayer(t *testing.T, g api.Grid, set []int, want api.Grid) {
	t.Helper()
	only, e := layers.Only(g, set)
	if !grid.Same(only, want) || e != api.OK {
		t.Fatalf("a layer is%s, %d, want %s, for%s", show(only), e, show(want), show(g))
	}
	if slices.ContainsFunc(set, func(a int) bool { return a%2 != set[0]%2 }) {
		t.Fatalf("a layer has the threads %v, for%s", set, show(g))
	}
}

// P12.3: the tube of a cloth that hangs together has two layers, of which the
// cloth is on top, and its back below.
func TestLayersOfTubes(t *testing.T) {
	for _, a := range append(whole(t, all(3, 3)), plain(32, 32), plain(2, 2), twill(32, 32, 9)) {
		tube, _ := double.Tube(a)
		top, bottom, _ := layers.Split(tube, 1)
		wantLayer(t, tube, top, a)
		wantLayer(t, tube, bottom, backOf(a))
		if l, _ := layers.Layers(tube); len(l) != 2 {
			t.Fatalf("the layers of the tube are %v, for%s", l, show(a))
		}
	}
}

// P12.3: the face is a if the motif is up everywhere, and b if it is down.
func TestFaceOfOneMotif(t *testing.T) {
	for _, s := range [][2]int{{1, 1}, {2, 2}, {1, 64}, {64, 1}, {3, 5}, {33, 32}, {64, 64}} {
		for _, m := range threes(s[0], s[1]) {
			wantFace(t, three{m.a, m.b, blank(s[0], s[1], true)}, m.a)
			wantFace(t, three{m.a, m.b, blank(s[0], s[1], false)}, m.b)
			x, y := s[0]-1, s[1]/2
			wantFace(t, three{blank(s[0], s[1], true), blank(s[0], s[1], false), m.motif}, m.motif)
			wantFace(t, three{blank(s[0], s[1], true), blank(s[0], s[1], false), but(s[0], s[1], x, y, true)}, but(s[0], s[1], x, y, true))
		}
	}
}
