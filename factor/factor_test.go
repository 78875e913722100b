package factor_test

import (
	"slices"
	"strings"
	"testing"

	"raddle/api"
	"raddle/draft"
	"raddle/factor"
	"raddle/grid"
)

// read returns the grid with a text.
func read(t *testing.T, s string) api.Grid {
	t.Helper()
	g, e := grid.Parse(s)
	if e != api.OK {
		t.Fatalf("Parse(%q): %d", s, e)
	}
	return g
}

// weave returns the drawdown of a valid draft.
func weave(t *testing.T, d api.Draft) api.Grid {
	t.Helper()
	g, e := draft.Weave(d)
	if e != api.OK {
		t.Fatalf("Weave(%v): %d", d, e)
	}
	return g
}

// show returns the text of a grid on lines of their own.
func show(g api.Grid) string {
	s, e := grid.Text(g)
	if e != api.OK {
		return "no grid"
	}
	return "\n" + s
}

// of returns the least draft of a grid that has one.
func of(t *testing.T, g api.Grid) api.Draft {
	t.Helper()
	d, e := factor.Of(g)
	if e != api.OK || draft.Check(d) != api.OK {
		t.Fatalf("Of(%s): %v, %d", show(g), d, e)
	}
	return d
}

// column and row return the cells of a column and of a row, as a text.
func column(g api.Grid, x int) string { return cells(g.H, func(y int) bool { return up(g, x, y) }) }
func row(g api.Grid, y int) string    { return cells(g.W, func(x int) bool { return up(g, x, y) }) }

func cells(n int, at func(i int) bool) string {
	var b strings.Builder
	for i := range n {
		if at(i) {
			b.WriteByte('x')
		} else {
			b.WriteByte('.')
		}
	}
	return b.String()
}

// up returns the cell (x, y) of a grid.
func up(g api.Grid, x, y int) bool { return g.Bits[y*g.W+x] }

// build returns the grid with these sides and cells.
func build(w, h int, at func(x, y int) bool) api.Grid {
	g := api.Grid{W: w, H: h}
	for y := range h {
		for x := range w {
			g.Bits = append(g.Bits, at(x, y))
		}
	}
	return g
}

// texts returns the texts of n lines.
func texts(n int, at func(i int) string) []string {
	l := make([]string, n)
	for i := range l {
		l[i] = at(i)
	}
	return l
}

// numbered returns the number of the kind of each text, by looking back.
func numbered(l []string) (kind []int, count int) {
	for i, s := range l {
		if first := slices.Index(l, s); first < i {
			kind = append(kind, kind[first])
		} else {
			kind = append(kind, count)
			count++
		}
	}
	return kind, count
}

// mixed returns a list of numbers below n in no order.
func mixed(n, length int) []int {
	l := make([]int, length)
	seed := uint32(n*1000 + length)
	for i := range l {
		seed = seed*1664525 + 1013904223
		l[i] = int(seed>>8) % n
	}
	return l
}

// numbers returns the numbers below n.
func numbers(n int) []int {
	l := make([]int, n)
	for i := range l {
		l[i] = i
	}
	return l
}

// shuffled returns the numbers below n, each one once, in no order.
func shuffled(n int) []int {
	l := numbers(n)
	for i, v := range mixed(1000003, n) {
		k := v % (i + 1)
		l[i], l[k] = l[k], l[i]
	}
	return l
}

// stairs returns a grid with so many kinds of columns and of rows, which are
// equally many, or one more on one side: its kinds differ like steps, each one
// up in one more kind of the other side.
func stairs(w, h, shafts, treadles int) api.Grid {
	xs, ys := places(w, shafts), places(h, treadles)
	return build(w, h, func(x, y int) bool {
		if shafts < treadles {
			return ys[y] > xs[x]
		}
		return xs[x] > ys[y]
	})
}

// places returns a list with each number below n, all of them mixed.
func places(length, n int) []int {
	l := append(shuffled(n), mixed(n, length-n)...)
	l[0], l[length-1] = l[length-1], l[0]
	return l
}

// small returns all grids with up to most cells.
func small(most int) []api.Grid {
	var l []api.Grid
	for w := 1; w <= most; w++ {
		for h := 1; w*h <= most; h++ {
			for v := range 1 << (w * h) {
				l = append(l, build(w, h, func(x, y int) bool { return v>>(y*w+x)&1 == 1 }))
			}
		}
	}
	return l
}

// samples returns grids of many sizes and numbers of kinds, that have a least
// draft.
func samples() []api.Grid {
	l := small(8)
	for _, n := range [][4]int{
		{1, 1, 1, 1}, {1, 64, 1, 2}, {64, 1, 2, 1}, {64, 64, 1, 1}, {64, 64, 1, 2}, {64, 64, 40, 40},
		{64, 64, 40, 39}, {64, 64, 39, 40}, {40, 40, 40, 40}, {40, 64, 40, 40}, {64, 40, 40, 40}, {41, 63, 20, 19},
		{7, 64, 7, 7}, {64, 7, 7, 7}, {12, 9, 4, 4}, {9, 12, 5, 4}, {63, 64, 2, 2}, {33, 34, 32, 33},
	} {
		l = append(l, stairs(n[0], n[1], n[2], n[3]))
	}
	for _, n := range [][2]int{{64, 5}, {5, 64}, {40, 40}, {31, 17}, {1, 64}, {64, 1}} {
		v := mixed(1000, n[0]*n[1])
		l = append(l, build(n[0], n[1], func(x, y int) bool { return v[y*n[0]+x]%3 == 0 }))
	}
	return l
}

func wantNumbers(t *testing.T, what string, g api.Grid, l []int, e api.Errno, want []int) {
	t.Helper()
	if e != api.OK || !slices.Equal(l, want) {
		t.Fatalf("%s of %s: %v, %d, want %v", what, show(g), l, e, want)
	}
}

func wantCount(t *testing.T, g api.Grid, shafts, treadles int) {
	t.Helper()
	if s, v, e := factor.Count(g); s != shafts || v != treadles || e != api.OK {
		t.Fatalf("Count of %s: %d, %d, %d, want %d and %d", show(g), s, v, e, shafts, treadles)
	}
}

func wantDraft(t *testing.T, what string, d api.Draft, e api.Errno, want api.Draft) {
	t.Helper()
	if e != api.OK || !draft.Same(d, want) {
		t.Fatalf("%s: %v, %d, want %v", what, d, e, want)
	}
}

func TestExample(t *testing.T) {
	g := read(t, "x.x\n.x.\n")
	l, e := factor.Columns(g)
	wantNumbers(t, "Columns", g, l, e, []int{0, 1, 0})
	l, e = factor.Rows(g)
	wantNumbers(t, "Rows", g, l, e, []int{0, 1})
	wantCount(t, g, 2, 2)
	d, e := factor.Of(g)
	wantDraft(t, "Of", d, e, api.Draft{
		Shafts: 2, Treadles: 2, Thread: []int{0, 1, 0}, Tread: []int{0, 1},
		Tie: api.Grid{W: 2, H: 2, Bits: []bool{false, true, true, false}},
	})
	for _, s := range []string{".\n", "...\n...\n", strings.Repeat(strings.Repeat(".", 64)+"\n", 64)} {
		g := read(t, s)
		wantCount(t, g, 1, 1)
		d, e := factor.Of(g)
		wantDraft(t, "Of", d, e, api.Draft{
			Shafts: 1, Treadles: 1, Thread: make([]int, g.W), Tread: make([]int, g.H),
			Tie: api.Grid{W: 1, H: 1, Bits: []bool{false}},
		})
	}
}

// P4.1
func TestKinds(t *testing.T) {
	for _, k := range []struct {
		text       string
		xs, ys     []int
		shafts, tr int
	}{
		{"x\n", []int{0}, []int{0}, 1, 1},
		{"xx\nxx\n", []int{0, 0}, []int{0, 0}, 1, 1},
		{"x.xx.\n", []int{0, 1, 0, 0, 1}, []int{0}, 2, 1},
		{"x\n.\n.\nx\n", []int{0}, []int{0, 1, 1, 0}, 1, 2},
		{"x..\n.x.\n..x\n", []int{0, 1, 2}, []int{0, 1, 2}, 3, 3},
		{".xxx\nx..x\nx.xx\n", []int{0, 1, 2, 3}, []int{0, 1, 2}, 4, 3},
		// The first pick is the last line.
		{"xx.\n..x\nxx.\nxxx\n", []int{0, 0, 1}, []int{0, 1, 2, 1}, 2, 3},
		{".xx.x\nx..x.\n.xx.x\n", []int{0, 1, 1, 0, 1}, []int{0, 1, 0}, 2, 2},
	} {
		g := read(t, k.text)
		l, e := factor.Columns(g)
		wantNumbers(t, "Columns", g, l, e, k.xs)
		l, e = factor.Rows(g)
		wantNumbers(t, "Rows", g, l, e, k.ys)
		wantCount(t, g, k.shafts, k.tr)
	}
}

// P4.1: columns and rows that differ in one cell only, which may be the last.
func TestKindsByOneCell(t *testing.T) {
	for _, n := range []int{1, 2, 32, 33, 63, 64} {
		for at := range n {
			g := build(3, n, func(x, y int) bool { return x == 1 && y == at })
			l, e := factor.Columns(g)
			wantNumbers(t, "Columns", g, l, e, []int{0, 1, 0})
			g = build(n, 3, func(x, y int) bool { return y == 1 && x == at })
			l, e = factor.Rows(g)
			wantNumbers(t, "Rows", g, l, e, []int{0, 1, 0})
		}
	}
}

// P4.1: of all small grids and of great ones, with kinds found otherwise.
func TestKindsOfAll(t *testing.T) {
	for _, g := range append(slices.Concat(samples(), small(11)),
		stairs(64, 64, 41, 40), stairs(64, 64, 40, 41), stairs(64, 64, 63, 64), stairs(64, 64, 64, 64), stairs(64, 64, 64, 63),
	) {
		xs, shafts := numbered(texts(g.W, func(x int) string { return column(g, x) }))
		ys, treadles := numbered(texts(g.H, func(y int) string { return row(g, y) }))
		l, e := factor.Columns(g)
		wantNumbers(t, "Columns", g, l, e, xs)
		l, e = factor.Rows(g)
		wantNumbers(t, "Rows", g, l, e, ys)
		wantCount(t, g, shafts, treadles)
	}
}

// P4.1: up to 64 kinds are counted, though no draft has so many.
func TestCountStairs(t *testing.T) {
	for n := 1; n <= 64; n++ {
		wantCount(t, stairs(64, 64, n, n), n, n)
		if n > 1 {
			wantCount(t, stairs(64, 64, n-1, n), n-1, n)
			wantCount(t, stairs(64, 64, n, n-1), n, n-1)
		}
	}
}

// P4.2: each part of the least draft as it is defined.
func TestOf(t *testing.T) {
	for _, g := range samples() {
		xs, shafts := numbered(texts(g.W, func(x int) string { return column(g, x) }))
		ys, treadles := numbered(texts(g.H, func(y int) string { return row(g, y) }))
		d, e := factor.Of(g)
		wantDraft(t, "Of", d, e, api.Draft{
			Shafts: shafts, Treadles: treadles, Thread: xs, Tread: ys,
			Tie: build(treadles, shafts, func(v, s int) bool {
				return up(g, slices.Index(xs, s), slices.Index(ys, v))
			}),
		})
	}
}

// P4.2: a shaft and a treadle more than there are.
func TestOfLimits(t *testing.T) {
	for _, k := range []struct {
		shafts, treadles int
		want             api.Errno
	}{
		{39, 39, api.OK}, {39, 40, api.OK}, {40, 39, api.OK}, {40, 40, api.OK},
		{40, 41, api.ErrMany}, {41, 40, api.ErrMany}, {41, 41, api.ErrMany}, {41, 42, api.ErrMany},
		{63, 64, api.ErrMany}, {64, 63, api.ErrMany}, {64, 64, api.ErrMany},
	} {
		for _, g := range []api.Grid{
			stairs(64, 64, k.shafts, k.treadles), stairs(k.shafts, 64, k.shafts, k.treadles),
			stairs(64, k.treadles, k.shafts, k.treadles), stairs(k.shafts, k.treadles, k.shafts, k.treadles),
		} {
			wantCount(t, g, k.shafts, k.treadles)
			d, e := factor.Of(g)
			if e != k.want {
				t.Fatalf("Of with %d and %d kinds: %d, want %d", k.shafts, k.treadles, e, k.want)
			}
			if e != api.OK && !draft.Same(d, api.Draft{}) {
				t.Fatalf("Of with %d and %d kinds: %v", k.shafts, k.treadles, d)
			}
		}
	}
}

// P4.2: many kinds on one side, and few on the other one.
func TestOfLimitsOfOneSide(t *testing.T) {
	for _, n := range []int{40, 41, 64} {
		wide := build(n, 6, func(x, y int) bool { return x>>y&1 == 1 })
		high := build(6, n, func(x, y int) bool { return y>>x&1 == 1 })
		wantCount(t, wide, n, 6)
		wantCount(t, high, 6, n)
		for _, g := range []api.Grid{wide, high} {
			d, e := factor.Of(g)
			if n == 40 {
				if e != api.OK || !grid.Same(weave(t, d), g) {
					t.Fatalf("Of: %v, %d", d, e)
				}
			} else if e != api.ErrMany || !draft.Same(d, api.Draft{}) {
				t.Fatalf("Of with %d kinds: %v, %d", n, d, e)
			}
		}
	}
}

// P4.4
func TestConsequences(t *testing.T) {
	for _, g := range samples() {
		d := of(t, g)
		if !grid.Same(weave(t, d), g) {
			t.Fatalf("the drawdown of %v is not %s", d, show(g))
		}
		if is, e := factor.Least(d); !is || e != api.OK {
			t.Fatalf("Least of %v: %v, %d", d, is, e)
		}
		turned, e := grid.Turn(g)
		if e != api.OK {
			t.Fatal(e)
		}
		xs, _ := factor.Columns(turned)
		ys, _ := factor.Rows(turned)
		if !slices.Equal(xs, d.Tread) || !slices.Equal(ys, d.Thread) {
			t.Fatalf("turned there are the kinds %v and %v in %s", xs, ys, show(g))
		}
		wantCount(t, turned, d.Treadles, d.Shafts)
		back, e := draft.Turn(of(t, turned))
		wantDraft(t, "turned twice", back, e, d)
	}
}

// P4.4: a draft weaves on no fewer shafts and treadles than the least draft.
func TestLeastDraftOfDrawdown(t *testing.T) {
	for _, d := range drafts() {
		least := of(t, weave(t, d))
		if least.Shafts > d.Shafts || least.Treadles > d.Treadles {
			t.Fatalf("the least draft for %v is %v", d, least)
		}
		is, e := factor.Least(d)
		if e != api.OK {
			t.Fatal(d, e)
		}
		if is != (least.Shafts == d.Shafts && least.Treadles == d.Treadles) {
			t.Fatalf("Least of %v: %v", d, is)
		}
		if is {
			wantMatch(t, d, least)
			wantMatch(t, least, d)
		}
	}
}
