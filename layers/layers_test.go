package layers_test

import (
	"math"
	"slices"
	"testing"

	"raddle/api"
	"raddle/grid"
	"raddle/hang"
	"raddle/layers"
)

// read returns the grid with a text.
func read(t *testing.T, s string) api.Grid {
	t.Helper()
	g, e := grid.Parse(s)
	if e != api.OK {
		t.Fatalf("Parse(%q): %d", s, e)
	}
	return g
}

// show returns the text of a grid on lines of their own.
func show(g api.Grid) string {
	s, e := grid.Text(g)
	if e != api.OK {
		return "no grid"
	}
	return "\n" + s
}

// build returns the grid with these sides and cells.
func build(w, h int, up func(x, y int) bool) api.Grid {
	g := api.Grid{W: w, H: h}
	for y := range h {
		for x := range w {
			g.Bits = append(g.Bits, up(x, y))
		}
	}
	return g
}

// blank returns the grid whose cells are all up, or all down.
func blank(w, h int, up bool) api.Grid {
	return build(w, h, func(int, int) bool { return up })
}

// plain returns a grid of which each cell is unlike the ones beside it.
func plain(w, h int) api.Grid {
	return build(w, h, func(x, y int) bool { return (x+y)%2 == 0 })
}

// twill returns the grid in which each pick is the one before it, moved, with
// over cells side by side that are up.
func twill(w, h, over, move int) api.Grid {
	return build(w, h, func(x, y int) bool { return ((x-y*move)%w+w)%w < over })
}

// random returns a grid whose cells follow no rule; of 8 cells, about ups are
// up.
func random(w, h int, ups uint32) api.Grid {
	seed := uint32(w*100+h) + ups
	return build(w, h, func(int, int) bool {
		seed = seed*1664525 + 1013904223
		return seed>>29 < ups
	})
}

// long returns a cloth with long ways: of the threads end 0, pick 0, end 1,
// pick 1, and so on, each one lies over the next one; otherwise, the later ones
// lie over the earlier ones.
func long(n int) api.Grid {
	return build(n, n, func(x, y int) bool { return x == y || x > y+1 })
}

// chain returns a cloth of which each thread is a part: of the threads end 0,
// pick 0, end 1, pick 1, and so on, each one lies over all later ones that it
// crosses.
func chain(n int) api.Grid {
	return build(n, n, func(x, y int) bool { return x <= y })
}

// stack returns a cloth of which the threads on a lesser level lie over those
// on a greater one; those on one level are plain weave.
func stack(w, h int, end, pick func(i int) int) api.Grid {
	ends, picks := places(w, end), places(h, pick)
	return build(w, h, func(x, y int) bool {
		if end(x) != pick(y) {
			return end(x) < pick(y)
		}
		return (ends[x]+picks[y])%2 == 0
	})
}

// places returns how many threads before each one are on the same level.
func places(n int, level func(i int) int) []int {
	var l []int
	seen := map[int]int{}
	for i := range n {
		l = append(l, seen[level(i)])
		seen[level(i)]++
	}
	return l
}

// modulo returns the levels on which threads take turns.
func modulo(n int) func(int) int { return func(i int) int { return i % n } }

// above returns the levels of threads of which a later one lies above.
func above(n int) func(int) int { return func(i int) int { return n - i } }

// listed returns levels that are listed.
func listed(levels ...int) func(int) int { return func(i int) int { return levels[i] } }

// small returns all grids with up to most cells and seven threads.
func small(most int) []api.Grid {
	var l []api.Grid
	for w := 1; w <= 6; w++ {
		for h := 1; w*h <= most && w+h <= 7; h++ {
			for v := range 1 << (w * h) {
				l = append(l, build(w, h, func(x, y int) bool { return v>>(y*w+x)&1 == 1 }))
			}
		}
	}
	return l
}

// samples returns grids of many sizes, up to the greatest ones.
func samples() []api.Grid {
	l := []api.Grid{
		blank(64, 64, false), blank(64, 64, true), blank(64, 1, true), blank(1, 64, false), blank(3, 5, true), blank(5, 3, false),
		plain(64, 64), plain(63, 64), plain(2, 64), plain(64, 2), plain(64, 1), plain(1, 64), plain(5, 7),
		twill(64, 64, 32, 1), twill(64, 64, 1, 1), twill(64, 64, 63, 63), twill(8, 8, 3, 3), twill(5, 10, 1, 2), twill(7, 3, 5, 2),
		long(2), long(3), long(7), long(20), long(64), chain(1), chain(2), chain(9), chain(64),
		stack(64, 64, modulo(2), modulo(2)), stack(64, 64, modulo(3), modulo(3)), stack(64, 64, modulo(32), modulo(32)),
		stack(64, 64, modulo(33), modulo(31)), stack(64, 64, modulo(2), modulo(64)), stack(63, 61, modulo(7), modulo(9)),
		stack(12, 12, modulo(5), modulo(3)), stack(8, 8, modulo(4), modulo(4)), stack(64, 64, above(64), above(64)),
		stack(30, 20, above(30), modulo(20)), stack(20, 30, modulo(20), above(40)),
		build(64, 64, func(x, y int) bool { return x%2 == 0 }),
		build(64, 64, func(x, y int) bool { return y/16%2 == 0 }),
		build(63, 64, func(x, y int) bool { return x%3 == 0 || y == 5 }),
	}
	for _, s := range [][2]int{{64, 64}, {63, 64}, {64, 1}, {1, 64}, {2, 64}, {64, 2}, {17, 5}, {5, 17}, {11, 13}, {6, 6}, {4, 9}} {
		for _, ups := range []uint32{1, 2, 4, 6, 7} {
			l = append(l, random(s[0], s[1], ups))
		}
	}
	return l
}

// liesOver reports whether a thread lies over another one, by the definition.
func liesOver(g api.Grid, a, b int) bool {
	if a < g.W && b >= g.W {
		return g.Bits[g.W*(b-g.W)+a]
	}
	if b < g.W && a >= g.W {
		return !g.Bits[g.W*(a-g.W)+b]
	}
	return false
}

// isHeld reports which threads each thread is held by, found by way of more
// and more threads.
func isHeld(g api.Grid) [][]bool {
	n := g.W + g.H
	held := make([][]bool, n)
	for a := range held {
		held[a] = make([]bool, n)
		for b := range n {
			held[a][b] = a == b || liesOver(g, b, a)
		}
	}
	for by := range n {
		for a := range n {
			for b := range n {
				held[a][b] = held[a][b] || held[a][by] && held[by][b]
			}
		}
	}
	return held
}

// partsOf returns the parts of a cloth in their order, by the definition.
func partsOf(g api.Grid) [][]int {
	held := isHeld(g)
	var left [][]int
	for a := range held {
		var part []int
		for b := range held {
			if held[a][b] && held[b][a] {
				part = append(part, b)
			}
		}
		if part[0] == a {
			left = append(left, part)
		}
	}
	liesOn := func(upper, lower []int) bool {
		return slices.ContainsFunc(upper, func(a int) bool {
			return slices.ContainsFunc(lower, func(b int) bool { return liesOver(g, a, b) })
		})
	}
	var parts [][]int
	for len(left) > 0 {
		i := slices.IndexFunc(left, func(part []int) bool {
			return !slices.ContainsFunc(left, func(other []int) bool { return other[0] != part[0] && liesOn(other, part) })
		})
		parts = append(parts, left[i])
		left = slices.Delete(left, i, i+1)
	}
	return parts
}

// layersOf returns the layers of a cloth with some parts.
func layersOf(g api.Grid, parts [][]int) []api.Layer {
	var l []api.Layer
	for _, part := range parts {
		if len(part) < 2 {
			continue
		}
		var one api.Layer
		for _, a := range part {
			if a < g.W {
				one.Ends = append(one.Ends, a)
			} else {
				one.Picks = append(one.Picks, a-g.W)
			}
		}
		l = append(l, one)
	}
	return l
}

// onlyOf returns the cloth of only some threads; its sides are 0 if there are
// no ends or picks among them.
func onlyOf(g api.Grid, set []int) api.Grid {
	first := slices.IndexFunc(append(slices.Clone(set), g.W), func(a int) bool { return a >= g.W })
	ends, picks := set[:first], set[first:]
	return build(len(ends), len(picks), func(x, y int) bool { return liesOver(g, ends[x], picks[y]) })
}

// sets returns all sets of n threads.
func sets(n int) [][]int {
	var l [][]int
	for v := range 1 << n {
		set := []int{}
		for t := range n {
			if v>>t&1 == 1 {
				set = append(set, t)
			}
		}
		l = append(l, set)
	}
	return l
}

// someSets returns sets of the threads of a great cloth: parts, some of each
// kind, all but one, and all.
func someSets(g api.Grid) [][]int {
	n := g.W + g.H
	l := [][]int{nil, {}}
	for _, keep := range []func(a int) bool{
		func(a int) bool { return true },
		func(a int) bool { return a < g.W },
		func(a int) bool { return a >= g.W },
		func(a int) bool { return a%2 == 0 },
		func(a int) bool { return a%3 == 1 },
		func(a int) bool { return a == 0 || a == n-1 },
		func(a int) bool { return a == g.W-1 || a == g.W },
		func(a int) bool { return a != g.W-1 },
		func(a int) bool { return a != g.W },
		func(a int) bool { return a*a%7 < 3 },
	} {
		var set []int
		for a := range n {
			if keep(a) {
				set = append(set, a)
			}
		}
		l = append(l, set)
	}
	return append(l, partsOf(g)...)
}

// sameParts reports whether two lists of parts are the same.
func sameParts(a, b [][]int) bool { return slices.EqualFunc(a, b, slices.Equal) }

// sameLayers reports whether two lists of layers are the same.
func sameLayers(a, b []api.Layer) bool {
	return slices.EqualFunc(a, b, func(p, q api.Layer) bool {
		return slices.Equal(p.Ends, q.Ends) && slices.Equal(p.Picks, q.Picks)
	})
}

// wantParts checks the parts of a cloth.
func wantParts(t *testing.T, g api.Grid, want ...[]int) {
	t.Helper()
	if parts, e := layers.Parts(g); !sameParts(parts, want) || e != api.OK {
		t.Fatalf("Parts: %v, %d, want %v, for%s", parts, e, want, show(g))
	}
}

// wantHeld checks whether a thread is held by another one.
func wantHeld(t *testing.T, g api.Grid, a, b int, want bool) {
	t.Helper()
	if is, e := layers.Held(g, a, b); is != want || e != api.OK {
		t.Fatalf("Held(%d, %d): %v, %d, want %v, for%s", a, b, is, e, want, show(g))
	}
}

// wantLayers checks the layers of a cloth.
func wantLayers(t *testing.T, g api.Grid, want ...api.Layer) {
	t.Helper()
	if l, e := layers.Layers(g); !sameLayers(l, want) || e != api.OK {
		t.Fatalf("Layers: %v, %d, want %v, for%s", l, e, want, show(g))
	}
}

// wantOnly checks the cloth of only some threads.
func wantOnly(t *testing.T, g api.Grid, set []int, want api.Grid) {
	t.Helper()
	if only, e := layers.Only(g, set); !grid.Same(only, want) || e != api.OK {
		t.Fatalf("Only(%v): %s, %d, want %s, for%s", set, show(only), e, show(want), show(g))
	}
}

// wantNoCloth checks that there is no cloth of only some threads.
func wantNoCloth(t *testing.T, g api.Grid, set []int, want api.Errno) {
	t.Helper()
	if only, e := layers.Only(g, set); !grid.Same(only, api.Grid{}) || e != want {
		t.Fatalf("Only(%.100v): %v, %d, want %d, for%s", set, only, e, want, show(g))
	}
}

// wantSplit checks the threads of the first parts, and the others.
func wantSplit(t *testing.T, g api.Grid, n int, top, bottom []int) {
	t.Helper()
	if a, b, e := layers.Split(g, n); !slices.Equal(a, top) || !slices.Equal(b, bottom) || e != api.OK {
		t.Fatalf("Split(%d): %v and %v, %d, want %v and %v, for%s", n, a, b, e, top, bottom, show(g))
	}
}

// wantNoSplit checks that there are not so many parts.
func wantNoSplit(t *testing.T, g api.Grid, n int, want api.Errno) {
	t.Helper()
	if top, bottom, e := layers.Split(g, n); len(top) > 0 || len(bottom) > 0 || e != want {
		t.Fatalf("Split(%d): %v and %v, %d, want %d, for%s", n, top, bottom, e, want, show(g))
	}
}

// single returns parts of one thread each.
func single(threads ...int) [][]int {
	var parts [][]int
	for _, a := range threads {
		parts = append(parts, []int{a})
	}
	return parts
}

// upTo returns the numbers from one to another one.
func upTo(from, to int) []int {
	var l []int
	for i := from; i <= to; i++ {
		l = append(l, i)
	}
	return l
}

func TestExamples(t *testing.T) {
	two := read(t, "xxx.\nxx.x\n.x..\nx...\n")
	wantParts(t, two, []int{0, 1, 4, 5}, []int{2, 3, 6, 7})
	wantLayers(t, two, api.Layer{Ends: []int{0, 1}, Picks: []int{0, 1}}, api.Layer{Ends: []int{2, 3}, Picks: []int{2, 3}})
	wantOnly(t, two, []int{0, 1, 4, 5}, read(t, ".x\nx.\n"))
	wantOnly(t, two, []int{2, 3, 6, 7}, read(t, "x.\n.x\n"))
	loose := read(t, "x.\n")
	wantParts(t, loose, []int{0}, []int{2}, []int{1})
	wantLayers(t, loose)
}

// P11.1: cloths of which each thread is a part; of several parts with nothing
// on them, the one with the least first number comes first.
func TestPartsOfOneThread(t *testing.T) {
	for _, c := range []struct {
		cloth string
		order []int
	}{
		{"x\n", []int{0, 1}},
		{".\n", []int{1, 0}},
		{"xx\n", []int{0, 1, 2}},
		{"..\n", []int{2, 0, 1}},
		{".x\n", []int{1, 2, 0}},
		{"x\nx\n", []int{0, 1, 2}},
		{"x\n.\n", []int{1, 0, 2}},
		{".\nx\n", []int{2, 0, 1}},
		{".\n.\n", []int{1, 2, 0}},
		{"x.x.\n", []int{0, 2, 4, 1, 3}},
		{"xxx\nxxx\n", []int{0, 1, 2, 3, 4}},
		{"...\n...\n", []int{3, 4, 0, 1, 2}},
		// The end 1 lies over both picks, the end 0 between them.
		{"xx\n.x\n", []int{1, 2, 0, 3}},
		{".x\nxx\n", []int{1, 3, 0, 2}},
		// The end 2 lies over all picks, the end 0 over one, and the end 1 over none.
		{"x.x\n..x\n", []int{2, 3, 0, 4, 1}},
	} {
		g := read(t, c.cloth)
		wantParts(t, g, single(c.order...)...)
		wantLayers(t, g)
	}
}

// P11.1 and P11.2: layers, with and without loose threads between them.
func TestSomeCloths(t *testing.T) {
	for _, c := range []struct {
		cloth string
		parts [][]int
	}{
		{".x\nx.\n", [][]int{{0, 1, 2, 3}}},
		{"x..\n.x.\n..x\n", [][]int{{0, 1, 2, 3, 4, 5}}},
		{"x..x\n..xx\n.xx.\nxx..\n", [][]int{{0, 1, 2, 3, 4, 5, 6, 7}}},
		// The lower layer has the lesser first number.
		{"..x.\nx.xx\nx...\nxxx.\n", [][]int{{0, 2, 5, 7}, {1, 3, 4, 6}}},
		{"...x\n.xxx\n.x..\nxx.x\n", [][]int{{1, 3, 5, 7}, {0, 2, 4, 6}}},
		// An end lies on top of a layer, between two, and below.
		{"xx.\nx.x\n", [][]int{{0}, {1, 2, 3, 4}}},
		{".x.\n..x\n", [][]int{{1, 2, 3, 4}, {0}}},
		// A pick lies on top of a layer, and below.
		{"..\n.x\nx.\n", [][]int{{4}, {0, 1, 2, 3}}},
		{"xx\n.x\nx.\n", [][]int{{0, 1, 2, 3}, {4}}},
	} {
		g := read(t, c.cloth)
		wantParts(t, g, partsOf(g)...)
		wantParts(t, g, c.parts...)
		wantLayers(t, g, layersOf(g, c.parts)...)
	}
}

// P11.1 and P11.2: two and more layers, on one another, with their threads in
// turns or side by side, of which the upper ones have the lesser or the greater
// numbers.
func TestStacks(t *testing.T) {
	for n := 2; n <= 32; n++ {
		for _, levels := range []func(i int) int{
			func(i int) int { return i % n },
			func(i int) int { return n - i%n },
			func(i int) int { return i * n / 64 },
			func(i int) int { return n - i*n/64 },
			func(i int) int { return i * 5 % 64 % n },
		} {
			var parts [][]int
			for level := range n + 1 {
				var part []int
				for a := range 128 {
					if levels(a%64) == level {
						part = append(part, a)
					}
				}
				if len(part) > 0 {
					parts = append(parts, part)
				}
			}
			if len(parts) != n {
				t.Fatalf("%d layers are %d", n, len(parts))
			}
			g := stack(64, 64, levels, levels)
			wantParts(t, g, parts...)
			wantLayers(t, g, layersOf(g, parts)...)
			for _, part := range parts {
				wantOnly(t, g, part, plain(len(part)/2, len(part)/2))
			}
		}
	}
}

// P11.1 and P11.2: loose threads on layers, between them, and below.
func TestLooseThreads(t *testing.T) {
	for _, c := range []struct {
		ends, picks []int
		parts       [][]int
	}{
		// Ends on top, between and below; of two, the first one comes first.
		{[]int{1, 0, 1, 3, 2, 3}, []int{1, 3, 1, 3}, [][]int{{1}, {0, 2, 6, 8}, {4}, {3, 5, 7, 9}}},
		{[]int{2, 1, 2, 1, 0, 3, 1, 0}, []int{0, 0, 2, 2}, [][]int{{4, 7, 8, 9}, {1}, {3}, {6}, {0, 2, 10, 11}, {5}}},
		{[]int{5, 0, 0, 4, 4, 5}, []int{0, 0, 4, 4}, [][]int{{1, 2, 6, 7}, {3, 4, 8, 9}, {0}, {5}}},
		// Picks on top, between and below.
		{[]int{1, 3, 1, 3}, []int{1, 0, 1, 3, 2, 3, 0, 4}, [][]int{{5}, {10}, {0, 2, 4, 6}, {8}, {1, 3, 7, 9}, {11}}},
		{[]int{4, 4}, []int{3, 5, 3, 4, 4, 5, 3}, [][]int{{2}, {4}, {8}, {0, 1, 5, 6}, {3}, {7}}},
		// Ends and picks between two layers.
		{[]int{0, 6, 0, 6, 2, 4}, []int{6, 3, 0, 5, 6, 0}, [][]int{{0, 2, 8, 11}, {4}, {7}, {5}, {9}, {1, 3, 6, 10}}},
		// An end and some picks on one level: every second one lies over it.
		{[]int{1, 0, 1}, []int{0, 0, 0, 0, 1, 1}, [][]int{{4}, {6}, {1}, {3}, {5}, {0, 2, 7, 8}}},
	} {
		g := stack(len(c.ends), len(c.picks), listed(c.ends...), listed(c.picks...))
		wantParts(t, g, partsOf(g)...)
		wantParts(t, g, c.parts...)
		wantLayers(t, g, layersOf(g, c.parts)...)
	}
}

// P11.1: all small grids.
func TestParts(t *testing.T) {
	numbers := map[int]int{}
	for _, g := range small(12) {
		parts := partsOf(g)
		wantParts(t, g, parts...)
		numbers[len(parts)]++
	}
	for n := 1; n <= 7; n++ {
		if numbers[n] == 0 {
			t.Errorf("no small cloth has %d parts", n)
		}
	}
}

// P11.1: cloths of all sizes.
func TestPartsOfSamples(t *testing.T) {
	numbers, most := map[int]bool{}, 0
	for _, g := range samples() {
		parts := partsOf(g)
		wantParts(t, g, parts...)
		numbers[len(parts)] = true
		for _, part := range parts {
			most = max(most, len(part))
		}
	}
	for _, n := range []int{1, 2, 3, 32, 128} {
		if !numbers[n] {
			t.Errorf("no cloth has %d parts", n)
		}
	}
	if most != 128 {
		t.Errorf("the greatest part has %d threads", most)
	}
}

// P11.1: all cells alike, one row, one column, and cloths of which each thread
// is a part.
func TestPartsOfLines(t *testing.T) {
	for n := 1; n <= 64; n++ {
		for _, h := range []int{1, n, 64} {
			ends, picks := upTo(0, n-1), upTo(n, n+h-1)
			wantParts(t, blank(n, h, true), single(slices.Concat(ends, picks)...)...)
			wantParts(t, blank(n, h, false), single(slices.Concat(picks, ends)...)...)
		}
		for up := range n {
			others := slices.DeleteFunc(upTo(0, n-1), func(a int) bool { return a == up })
			row := build(n, 1, func(x, y int) bool { return x == up })
			wantParts(t, row, single(slices.Concat([]int{up, n}, others)...)...)
			column := build(1, n, func(x, y int) bool { return y == up })
			for i := range others {
				others[i]++
			}
			wantParts(t, column, single(append(others, 0, 1+up)...)...)
		}
		var endFirst, pickFirst []int
		for i := range n {
			endFirst = append(endFirst, i, n+i)
			pickFirst = append(pickFirst, n+i, i)
		}
		wantParts(t, build(n, n, func(x, y int) bool { return x <= y }), single(endFirst...)...)
		wantParts(t, build(n, n, func(x, y int) bool { return x < y }), single(pickFirst...)...)
	}
}

// P11.1: a thread is held by itself, by those that lie over it, by those from
// which only longer lists lead, and by no others.
func TestHeldBySomeThreads(t *testing.T) {
	for cloth, want := range map[string][]string{
		// The thread 0 lies over 2, and this over 1.
		"x.\n": {"x..", "xxx", "x.x"},
		// The thread 1 lies over 3, this over 0, and this over 2.
		".x\nxx\n": {"xx.x", ".x..", "xxxx", ".x.x"},
		// All hang together.
		".x\nx.\n": {"xxxx", "xxxx", "xxxx", "xxxx"},
		// The end 0 lies over a layer, and the end 3 below.
		"xx..\nx.x.\n": {"x.....", "xxx.xx", "xxx.xx", "xxxxxx", "xxx.xx", "xxx.xx"},
		// Two ends and two picks that do not hold each other.
		"xx\nxx\n": {"x...", ".x..", "xxx.", "xx.x"},
	} {
		g := read(t, cloth)
		for a, row := range want {
			for b := range row {
				wantHeld(t, g, a, b, row[b] == 'x')
			}
		}
	}
	for _, n := range []int{-1, -2, -3, -5, math.MinInt, 5, 6, 64, 128, math.MaxInt} {
		for _, m := range []int{0, 1, 2, 3, 4, n} {
			for _, both := range [][2]int{{n, m}, {m, n}} {
				if is, e := layers.Held(read(t, "..x\nx.x\n"), both[0], both[1]); is || e != api.ErrArg {
					t.Errorf("Held(%d, %d): %v, %d", both[0], both[1], is, e)
				}
			}
		}
	}
}

// P11.1: by a list of all threads only, one way and not back.
func TestHeldByLongLists(t *testing.T) {
	for _, n := range []int{2, 3, 20, 64} {
		g := build(n, n, func(x, y int) bool { return x <= y })
		for a := range 2 * n {
			for b := range 2 * n {
				place := func(i int) int { return i%n*2 + i/n }
				if a%7 == 0 || n < 64 {
					wantHeld(t, g, a, b, place(b) <= place(a) && (place(b) != place(a) || a == b))
				}
			}
		}
	}
}

// P11.1
func TestHeld(t *testing.T) {
	for _, g := range append(samples(), small(12)...) {
		n := g.W + g.H
		held := isHeld(g)
		step := max(1, n/12)
		for a := 0; a < n; a += step {
			for b := a % step; b < n; b += step {
				wantHeld(t, g, a, b, held[a][b])
			}
			wantHeld(t, g, a, a, true)
			wantHeld(t, g, a, n-1, held[a][n-1])
			wantHeld(t, g, n-1, a, held[n-1][a])
		}
	}
}

// P11.2
func TestLayers(t *testing.T) {
	numbers := map[int]bool{}
	for _, g := range append(samples(), small(12)...) {
		l := layersOf(g, partsOf(g))
		wantLayers(t, g, l...)
		numbers[len(l)] = true
	}
	for _, n := range []int{0, 1, 2, 3, 4, 32} {
		if !numbers[n] {
			t.Errorf("no cloth has %d layers", n)
		}
	}
}

// P11.2: sets that are empty, that have only ends or only picks, some of both,
// and all.
func TestOnlySomeThreads(t *testing.T) {
	g := read(t, "x.x\n..x\n")
	for _, set := range [][]int{nil, {}, {0}, {2}, {0, 1}, {0, 2}, {0, 1, 2}, {3}, {4}, {3, 4}} {
		wantNoCloth(t, g, set, api.ErrShort)
	}
	for _, c := range []struct {
		set   []int
		cloth string
	}{
		{[]int{0, 3}, ".\n"},
		{[]int{0, 4}, "x\n"},
		{[]int{2, 3}, "x\n"},
		{[]int{2, 4}, "x\n"},
		{[]int{0, 3, 4}, "x\n.\n"},
		{[]int{1, 3, 4}, ".\n.\n"},
		{[]int{0, 2, 3}, ".x\n"},
		{[]int{1, 2, 4}, ".x\n"},
		{[]int{0, 1, 4}, "x.\n"},
		{[]int{0, 1, 2, 4}, "x.x\n"},
		{[]int{0, 1, 3, 4}, "x.\n..\n"},
		{[]int{0, 2, 3, 4}, "xx\n.x\n"},
		{[]int{0, 1, 2, 3, 4}, "x.x\n..x\n"},
	} {
		wantOnly(t, g, c.set, read(t, c.cloth))
	}
	for _, set := range [][]int{
		{-1}, {5}, {3, 0}, {0, 0}, {0, 0, 3}, {0, 3, 3}, {3, 4, 0}, {0, 3, 5}, {-1, 0, 3}, {0, 4, 3}, {1, 0, 3}, {-1, 5}, {1, 0}, {4, 3}, {4, 4}, {5, 6},
	} {
		wantNoCloth(t, g, set, api.ErrArg)
	}
}

// P11.2: all sets of small grids.
func TestOnly(t *testing.T) {
	for _, g := range small(10) {
		for _, set := range sets(g.W + g.H) {
			if want := onlyOf(g, set); want.W == 0 || want.H == 0 {
				wantNoCloth(t, g, set, api.ErrShort)
			} else {
				wantOnly(t, g, set, want)
			}
		}
	}
}

// P11.2: sets of great cloths, too: parts, some ends and picks, and all.
func TestOnlyOfSamples(t *testing.T) {
	for _, g := range samples() {
		for _, set := range someSets(g) {
			if want := onlyOf(g, set); want.W == 0 || want.H == 0 {
				wantNoCloth(t, g, set, api.ErrShort)
			} else {
				wantOnly(t, g, set, want)
			}
		}
		wantOnly(t, g, upTo(0, g.W+g.H-1), g)
	}
}

// P11.3: at 0, between, and at the number of parts.
func TestSplitOfSomeCloths(t *testing.T) {
	two := read(t, "..x.\nx.xx\nx...\nxxx.\n")
	all := upTo(0, 7)
	wantSplit(t, two, 0, nil, all)
	wantSplit(t, two, 1, []int{0, 2, 5, 7}, []int{1, 3, 4, 6})
	wantSplit(t, two, 2, all, nil)
	one := read(t, ".x\nx.\n")
	wantSplit(t, one, 0, nil, upTo(0, 3))
	wantSplit(t, one, 1, upTo(0, 3), nil)
	// The parts are 1, 3, 0 and 2.
	loose := read(t, ".x\nxx\n")
	wantSplit(t, loose, 0, nil, upTo(0, 3))
	wantSplit(t, loose, 1, []int{1}, []int{0, 2, 3})
	wantSplit(t, loose, 2, []int{1, 3}, []int{0, 2})
	wantSplit(t, loose, 3, []int{0, 1, 3}, []int{2})
	wantSplit(t, loose, 4, upTo(0, 3), nil)
	for _, c := range []struct {
		g     api.Grid
		parts int
	}{{two, 2}, {one, 1}, {loose, 4}} {
		for _, n := range []int{c.parts + 1, c.parts + 2, 64, 128, 1 << 32, math.MaxInt, -1, -2, -c.parts, -1 << 32, math.MinInt} {
			wantNoSplit(t, c.g, n, api.ErrArg)
		}
	}
}

// P11.3
func TestSplit(t *testing.T) {
	for _, g := range append(samples(), small(12)...) {
		parts := partsOf(g)
		for n := range len(parts) + 1 {
			top := slices.Sorted(slices.Values(slices.Concat(parts[:n]...)))
			bottom := slices.Sorted(slices.Values(slices.Concat(parts[n:]...)))
			wantSplit(t, g, n, top, bottom)
		}
		wantNoSplit(t, g, -1, api.ErrArg)
		wantNoSplit(t, g, len(parts)+1, api.ErrArg)
	}
}

// P11.4: each thread is in just one part, and a cloth has one part exactly if
// it hangs together.
func TestPartsHaveAllThreads(t *testing.T) {
	for _, g := range append(samples(), small(12)...) {
		parts, _ := layers.Parts(g)
		if all := slices.Sorted(slices.Values(slices.Concat(parts...))); !slices.Equal(all, upTo(0, g.W+g.H-1)) {
			t.Fatalf("the parts have the threads %v, for%s", all, show(g))
		}
		if hangs, _ := hang.Hangs(g); hangs != (len(parts) == 1) {
			t.Fatalf("the parts are %v, for%s", parts, show(g))
		}
		for _, part := range parts {
			if !slices.IsSorted(part) || len(part) == 0 {
				t.Fatalf("the parts are %v, for%s", parts, show(g))
			}
		}
	}
}

// P11.4: the first parts come off, unless there are none or all.
func TestFirstPartsComeOff(t *testing.T) {
	for _, g := range append(samples(), small(12)...) {
		parts, _ := layers.Parts(g)
		for n := range len(parts) + 1 {
			top, bottom, e := layers.Split(g, n)
			if off, f := hang.Off(g, top); off != (n > 0 && n < len(parts)) || e != api.OK || f != api.OK {
				t.Fatalf("Split(%d): %v and %v, %d, for%s", n, top, bottom, e, show(g))
			}
			not, _ := grid.Not(g)
			if off, _ := hang.Off(not, bottom); off != (n > 0 && n < len(parts)) {
				t.Fatalf("Split(%d): %v and %v, for the back of%s", n, top, bottom, show(g))
			}
		}
	}
}

// P11.4: each set that comes off is made of whole parts.
func TestSetsThatComeOff(t *testing.T) {
	many := 0
	for _, g := range small(10) {
		parts, _ := layers.Parts(g)
		for _, set := range sets(g.W + g.H) {
			if off, _ := hang.Off(g, set); !off {
				continue
			}
			for _, part := range parts {
				n := 0
				for _, a := range part {
					if slices.Contains(set, a) {
						n++
					}
				}
				if n != 0 && n != len(part) {
					t.Fatalf("%v comes off, with parts of %v, for%s", set, parts, show(g))
				}
			}
			if len(parts) > 1 && len(parts) < g.W+g.H {
				many++
			}
		}
	}
	if many < 100 {
		t.Errorf("only %d sets come off of cloths with layers", many)
	}
}

// P11.4: each layer has ends and picks, and hangs together.
func TestLayersHangTogether(t *testing.T) {
	for _, g := range append(samples(), small(12)...) {
		parts, _ := layers.Parts(g)
		all, _ := layers.Layers(g)
		for _, l := range all {
			if len(l.Ends) == 0 || len(l.Picks) == 0 {
				t.Fatalf("the layers are %v, for%s", all, show(g))
			}
			set := slices.Clone(l.Ends)
			for _, y := range l.Picks {
				set = append(set, g.W+y)
			}
			if !slices.ContainsFunc(parts, func(part []int) bool { return slices.Equal(part, set) }) {
				t.Fatalf("the layer %v is none of the parts %v, for%s", l, parts, show(g))
			}
			only, _ := layers.Only(g, set)
			if hangs, e := hang.Hangs(only); !hangs || e != api.OK {
				t.Fatalf("the layer %v does not hang together, for%s", l, show(g))
			}
		}
	}
}

// P11.4: the first part with the fewest threads of those on which nothing lies
// is the set that comes off first.
func TestPartThatComesOffFirst(t *testing.T) {
	for _, g := range append(samples(), small(12)...) {
		parts, _ := layers.Parts(g)
		if len(parts) == 1 {
			continue
		}
		var first []int
		for _, part := range parts {
			if off, _ := hang.Off(g, part); off && (first == nil || len(part) < len(first)) {
				first = part
			}
		}
		if set, _ := hang.Apart(g); !slices.Equal(set, first) {
			t.Fatalf("%v comes off first, and the first part is %v, for%s", set, first, show(g))
		}
	}
}

// P11.4: the parts of the back of a cloth are the same sets.
func TestPartsOfTheBack(t *testing.T) {
	for _, g := range append(samples(), small(12)...) {
		not, _ := grid.Not(g)
		parts, _ := layers.Parts(g)
		back, _ := layers.Parts(not)
		slices.SortFunc(parts, slices.Compare[[]int])
		slices.SortFunc(back, slices.Compare[[]int])
		if !sameParts(parts, back) {
			t.Fatalf("the parts are %v, and those of the back %v, for%s", parts, back, show(g))
		}
	}
}
