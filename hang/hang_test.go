package hang_test

import (
	"math"
	"slices"
	"testing"

	"raddle/api"
	"raddle/grid"
	"raddle/hang"
)

// read returns the grid with a text.
func read(t *testing.T, s string) api.Grid {
	t.Helper()
	g, e := grid.Parse(s)
	if e != api.OK {
		t.Fatalf("Parse(%q): %d", s, e)
	}
	return g
}

// show returns the text of a grid on lines of their own.
func show(g api.Grid) string {
	s, e := grid.Text(g)
	if e != api.OK {
		return "no grid"
	}
	return "\n" + s
}

// build returns the grid with these sides and cells.
func build(w, h int, up func(x, y int) bool) api.Grid {
	g := api.Grid{W: w, H: h}
	for y := range h {
		for x := range w {
			g.Bits = append(g.Bits, up(x, y))
		}
	}
	return g
}

// blank returns the grid whose cells are all up, or all down.
func blank(w, h int, up bool) api.Grid {
	return build(w, h, func(int, int) bool { return up })
}

// plain returns a grid of which each cell is unlike the ones beside it.
func plain(w, h int) api.Grid {
	return build(w, h, func(x, y int) bool { return (x+y)%2 == 0 })
}

// twill returns the grid in which each pick is the one before it, moved, with
// over cells side by side that are up.
func twill(w, h, over, move int) api.Grid {
	return build(w, h, func(x, y int) bool { return ((x-y*move)%w+w)%w < over })
}

// random returns a grid whose cells follow no rule; of 8 cells, about ups are
// up.
func random(w, h int, ups uint32) api.Grid {
	seed := uint32(w*100+h) + ups
	return build(w, h, func(int, int) bool {
		seed = seed*1664525 + 1013904223
		return seed>>29 < ups
	})
}

// long returns a cloth with long ways: of the threads end 0, pick 0, end 1,
// pick 1, and so on, each one lies over the next one; otherwise, the later ones
// lie over the earlier ones.
func long(n int) api.Grid {
	return build(n, n, func(x, y int) bool { return x == y || x > y+1 })
}

// parted returns a cloth that falls apart: some of its first ends and picks lie
// over all others.
func parted(w, h, ends, picks int) api.Grid {
	g := plain(w, h)
	for y := range h {
		for x := range w {
			if x < ends != (y < picks) {
				g.Bits[y*w+x] = x < ends
			}
		}
	}
	return g
}

// small returns all grids with up to most cells and seven threads.
func small(most int) []api.Grid {
	var l []api.Grid
	for w := 1; w <= 6; w++ {
		for h := 1; w*h <= most && w+h <= 7; h++ {
			for v := range 1 << (w * h) {
				l = append(l, build(w, h, func(x, y int) bool { return v>>(y*w+x)&1 == 1 }))
			}
		}
	}
	return l
}

// samples returns grids of many sizes, up to the greatest ones.
func samples() []api.Grid {
	l := []api.Grid{
		blank(64, 64, false), blank(64, 64, true), blank(64, 1, true), blank(1, 64, false), blank(3, 5, true), blank(5, 3, false),
		plain(64, 64), plain(63, 64), plain(2, 64), plain(64, 2), plain(64, 1), plain(1, 64), plain(5, 7),
		twill(64, 64, 32, 1), twill(64, 64, 1, 1), twill(64, 64, 63, 63), twill(8, 8, 3, 3), twill(4, 4, 2, 1), twill(5, 10, 1, 2), twill(7, 3, 5, 2),
		long(2), long(3), long(7), long(20), long(64),
		parted(64, 64, 32, 32), parted(64, 64, 2, 2), parted(64, 64, 62, 62), parted(64, 64, 1, 0), parted(64, 64, 0, 1), parted(64, 64, 63, 64),
		parted(64, 64, 64, 63), parted(9, 9, 5, 4), parted(11, 6, 1, 1), parted(6, 11, 3, 0), parted(20, 20, 0, 7), parted(20, 20, 7, 0),
		build(64, 64, func(x, y int) bool { return x < y }),
		build(64, 64, func(x, y int) bool { return x%2 == 0 }),
		build(64, 64, func(x, y int) bool { return y/16%2 == 0 }),
		build(63, 64, func(x, y int) bool { return x%3 == 0 || y == 5 }),
	}
	for _, s := range [][2]int{{64, 64}, {63, 64}, {64, 1}, {1, 64}, {2, 64}, {64, 2}, {17, 5}, {5, 17}, {11, 13}, {6, 6}, {4, 9}} {
		for _, ups := range []uint32{1, 2, 4, 6, 7} {
			l = append(l, random(s[0], s[1], ups))
		}
	}
	return l
}

// liesOver reports whether a thread lies over another one, by the definition.
func liesOver(g api.Grid, a, b int) bool {
	if a < g.W && b >= g.W {
		return g.Bits[g.W*(b-g.W)+a]
	}
	if b < g.W && a >= g.W {
		return !g.Bits[g.W*(a-g.W)+b]
	}
	return false
}

// sets returns all sets of n threads, those with fewer threads first, and then
// by their numbers.
func sets(n int) [][]int {
	var l [][]int
	for v := range 1 << n {
		set := []int{}
		for t := range n {
			if v>>t&1 == 1 {
				set = append(set, t)
			}
		}
		l = append(l, set)
	}
	slices.SortFunc(l, func(a, b []int) int {
		if len(a) != len(b) {
			return len(a) - len(b)
		}
		return slices.Compare(a, b)
	})
	return l
}

// isOff reports whether a set comes off, by the definition.
func isOff(g api.Grid, set []int) bool {
	for _, t := range set {
		for a := range g.W + g.H {
			if !slices.Contains(set, a) && liesOver(g, a, t) {
				return false
			}
		}
	}
	return len(set) != 0 && len(set) != g.W+g.H
}

// unreached is more than all distances.
const unreached = 1000

// distances returns how many threads on the shortest way from each thread to
// each other one is, found by way of more and more threads.
func distances(g api.Grid) [][]int {
	n := g.W + g.H
	d := make([][]int, n)
	for a := range d {
		d[a] = slices.Repeat([]int{unreached}, n)
		for b := range n {
			if liesOver(g, a, b) {
				d[a][b] = 1
			}
		}
		d[a][a] = 0
	}
	for by := range n {
		for a := range n {
			for b := range n {
				d[a][b] = min(d[a][b], d[a][by]+d[by][b])
			}
		}
	}
	return d
}

// isReached reports whether each thread is reached from each other one.
func isReached(d [][]int) bool {
	return !slices.ContainsFunc(d, func(l []int) bool { return slices.Contains(l, unreached) })
}

// firstOff returns the set that comes off first: of the sets that are made of
// all threads from which a thread is reached.
func firstOff(d [][]int) []int {
	var first []int
	for b := range d {
		var set []int
		for a := range d {
			if d[a][b] < unreached {
				set = append(set, a)
			}
		}
		if len(set) < len(d) && (first == nil || len(set) < len(first)) {
			first = set
		}
	}
	return first
}

// shortest returns the walk of a cloth by its distances: at each place of a way
// the first thread that is so far from its beginning, and from its end.
func shortest(g api.Grid, d [][]int) []int {
	walk := []int{0}
	for from := range d {
		to := (from + 1) % len(d)
		before := from
		for i := 1; i <= d[from][to]; i++ {
			for at := range d {
				if liesOver(g, before, at) && d[from][at] == i && d[at][to] == d[from][to]-i {
					before = at
					break
				}
			}
			walk = append(walk, before)
		}
	}
	return walk
}

// found returns the first list of n numbers that begins as given, ends with a
// thread, and in which each thread lies over the next one, or nil.
func found(g api.Grid, n int, list []int, to int) []int {
	if len(list) == n {
		if list[n-1] != to {
			return nil
		}
		return slices.Clone(list)
	}
	for t := range g.W + g.H {
		if liesOver(g, list[len(list)-1], t) {
			if l := found(g, n, append(list, t), to); l != nil {
				return l
			}
		}
	}
	return nil
}

// walkOf makes the walk of a cloth by the definition: all lists of all lengths
// are tried.
func walkOf(g api.Grid) []int {
	n := g.W + g.H
	walk := []int{0}
	for from := range n {
		var way []int
		for l := 1; way == nil; l++ {
			way = found(g, l, []int{from}, (from+1)%n)
		}
		walk = append(walk, way[1:]...)
	}
	return walk
}

// isWhole reports whether a list is a whole walk, by the definition.
func isWhole(g api.Grid, walk []int) bool {
	if len(walk) < 2 || walk[0] != walk[len(walk)-1] {
		return false
	}
	for i := range len(walk) - 1 {
		a, b := walk[i], walk[i+1]
		if a < 0 || b < 0 || a >= g.W+g.H || b >= g.W+g.H || !liesOver(g, a, b) {
			return false
		}
	}
	for t := range g.W + g.H {
		if !slices.Contains(walk, t) {
			return false
		}
	}
	return true
}

// wantOver checks whether a thread lies over another one.
func wantOver(t *testing.T, g api.Grid, a, b int, want bool) {
	t.Helper()
	if is, e := hang.Over(g, a, b); is != want || e != api.OK {
		t.Fatalf("Over(%d, %d): %v, %d, want %v, for%s", a, b, is, e, want, show(g))
	}
}

// wantOff checks whether a set comes off.
func wantOff(t *testing.T, g api.Grid, set []int, want bool) {
	t.Helper()
	if is, e := hang.Off(g, set); is != want || e != api.OK {
		t.Fatalf("Off(%v): %v, %d, want %v, for%s", set, is, e, want, show(g))
	}
}

// wantHangs checks whether a cloth hangs together.
func wantHangs(t *testing.T, g api.Grid, want bool) {
	t.Helper()
	if is, e := hang.Hangs(g); is != want || e != api.OK {
		t.Fatalf("Hangs: %v, %d, want %v, for%s", is, e, want, show(g))
	}
}

// wantApart checks which set comes off first, if there is one, and that the
// cloth does not hang together then.
func wantApart(t *testing.T, g api.Grid, want ...int) {
	t.Helper()
	if set, e := hang.Apart(g); !slices.Equal(set, want) || e != api.OK {
		t.Fatalf("Apart: %v, %d, want %v, for%s", set, e, want, show(g))
	}
	wantHangs(t, g, len(want) == 0)
	if len(want) > 0 {
		wantOff(t, g, want, true)
		wantNoWalk(t, g, api.ErrApart)
	}
}

// wantWalk checks the walk of a cloth, which is accepted.
func wantWalk(t *testing.T, g api.Grid, want ...int) {
	t.Helper()
	if walk, e := hang.Walk(g); !slices.Equal(walk, want) || e != api.OK {
		t.Fatalf("Walk: %v, %d, want %v, for%s", walk, e, want, show(g))
	}
	wantAccept(t, g, want, true)
	wantApart(t, g)
}

// wantNoWalk checks that no walk is returned.
func wantNoWalk(t *testing.T, g api.Grid, want api.Errno) {
	t.Helper()
	if walk, e := hang.Walk(g); len(walk) > 0 || e != want {
		t.Fatalf("Walk: %v, %d, want %d, for%s", walk, e, want, show(g))
	}
}

// wantAccept checks whether a list is a whole walk.
func wantAccept(t *testing.T, g api.Grid, walk []int, want bool) {
	t.Helper()
	if is, e := hang.Accept(g, walk); is != want || e != api.OK {
		t.Fatalf("Accept of %d numbers, %.200v: %v, %d, want %v, for%s", len(walk), walk, is, e, want, show(g))
	}
}

func TestExamples(t *testing.T) {
	wantWalk(t, read(t, ".x\nx.\n"), 0, 2, 1, 3, 0, 2, 1, 3, 0)
	wantApart(t, read(t, "x.\n"), 0)
	up := read(t, "xx\nxx\n")
	wantOff(t, up, []int{0}, true)
	wantOff(t, up, []int{1}, true)
	wantApart(t, up, 0)
}

// P10.1: a thread over itself, two ends, two picks, an end over a pick and a
// pick over an end.
func TestOverOfSomeThreads(t *testing.T) {
	g := read(t, "..x\nx.x\n")
	want := []string{
		"...x.",
		".....",
		"...xx",
		".x...",
		"xx...",
	}
	for a, row := range want {
		for b := range row {
			wantOver(t, g, a, b, row[b] == 'x')
		}
	}
	for _, n := range []int{-1, -2, -3, -5, math.MinInt, 5, 6, 64, 128, math.MaxInt} {
		for _, m := range []int{0, 1, 2, 3, 4, n} {
			for _, both := range [][2]int{{n, m}, {m, n}} {
				if is, e := hang.Over(g, both[0], both[1]); is || e != api.ErrArg {
					t.Errorf("Over(%d, %d): %v, %d", both[0], both[1], is, e)
				}
			}
		}
	}
}

// P10.1: of an end and a pick just one lies over the other one.
func TestOver(t *testing.T) {
	for _, g := range append(samples(), small(10)...) {
		for a := range g.W + g.H {
			for b := range g.W + g.H {
				wantOver(t, g, a, b, liesOver(g, a, b))
			}
			wantOver(t, g, a, a, false)
		}
		for i, isUp := range g.Bits {
			end, pick := i%g.W, g.W+i/g.W
			wantOver(t, g, end, pick, isUp)
			wantOver(t, g, pick, end, !isUp)
		}
	}
}

// P10.1: sets that are empty, that have one thread, some of them, and all.
func TestOffOfSomeSets(t *testing.T) {
	// The end 1 lies over all picks, and these over the end 0.
	g := read(t, ".x\n.x\n")
	for _, c := range []struct {
		want bool
		sets [][]int
	}{
		{true, [][]int{{1}, {1, 2}, {1, 3}, {1, 2, 3}}},
		{false, [][]int{nil, {}, {0}, {2}, {3}, {0, 1}, {0, 2}, {0, 3}, {2, 3}, {0, 1, 2}, {0, 1, 3}, {0, 2, 3}, {0, 1, 2, 3}}},
	} {
		for _, set := range c.sets {
			wantOff(t, g, set, c.want)
		}
	}
}

// P10.1: one cell, whose upper thread comes off.
func TestOffOfOneCell(t *testing.T) {
	for up, s := range []string{".\n", "x\n"} {
		g := read(t, s)
		wantOff(t, g, nil, false)
		wantOff(t, g, []int{0}, up == 1)
		wantOff(t, g, []int{1}, up == 0)
		wantOff(t, g, []int{0, 1}, false)
		wantApart(t, g, 1-up)
	}
}

// P10.1: all sets of all small grids.
func TestOff(t *testing.T) {
	for _, g := range small(10) {
		for _, set := range sets(g.W + g.H) {
			wantOff(t, g, set, isOff(g, set))
		}
	}
}

// P10.1: sets of great cloths, too: all threads but one, all ends, all picks.
func TestOffOfSamples(t *testing.T) {
	for _, g := range samples() {
		var ends, picks, all []int
		for a := range g.W + g.H {
			if a < g.W {
				ends = append(ends, a)
			} else {
				picks = append(picks, a)
			}
			all = append(all, a)
		}
		l := [][]int{nil, ends, picks, all, firstOff(distances(g))}
		for a := range all {
			l = append(l, []int{a}, slices.Delete(slices.Clone(all), a, a+1))
		}
		for _, set := range l {
			wantOff(t, g, set, isOff(g, set))
		}
	}
}

// P10.2: several sets of the fewest threads come off, of which the first one is
// returned; sets that come off with more threads have lesser first numbers.
func TestSomeCloths(t *testing.T) {
	for _, c := range []struct {
		cloth string
		set   []int
	}{
		{"x\n", []int{0}},
		{".\n", []int{1}},
		{"xx\n", []int{0}},
		{".x\n", []int{1}},
		{"..\n", []int{2}},
		{"x\nx\n", []int{0}},
		{".\nx\n", []int{2}},
		{"x\n.\n", []int{1}},
		{".\n.\n", []int{1}},
		{"xx\nxx\n", []int{0}},
		{"..\n..\n", []int{2}},
		{".xx\n.xx\n.xx\n", []int{1}},
		{"x.x\n.x.\n...\n", []int{3}},
		{"x.x\n...\n...\n", []int{3}},
		{"...\nx.x\n.x.\n", []int{5}},
		{"x.x\n.xx\nx.x\n", []int{2}},
		// The ends 0 and 1 and the picks 0 and 1 are a cloth on top of all others.
		{"xx.\n.x.\nx..\n", []int{0, 1, 3, 4}},
		{"xx..\nxx..\n.x..\nx...\n", []int{0, 1, 4, 5}},
		// A thread is on top of all that it crosses.
		{"xxx\n.xx\nx.x\n", []int{2}},
		{".xx\nx.x\n...\n", []int{3}},
		// Two cloths, of which the upper one comes off: its ends are 1 and 3, or
		// 0 and 2, its picks 1 and 3, or 0 and 2.
		{"...x\n.xxx\n.x..\nxx.x\n", []int{1, 3, 5, 7}},
		{".xxx\n.x..\nxx.x\n...x\n", []int{1, 3, 4, 6}},
		{"xxx.\nx...\nx.xx\n..x.\n", []int{0, 2, 4, 6}},
		{"..x.\nx.xx\nx...\nxxx.\n", []int{0, 2, 5, 7}},
	} {
		g := read(t, c.cloth)
		wantApart(t, g, c.set...)
		n := 0
		for _, set := range sets(g.W + g.H) {
			if len(set) == len(c.set) && isOff(g, set) && set[0] == c.set[0] {
				n++
			}
		}
		if n != 1 {
			t.Errorf("%d of these sets come off, for\n%s", n, c.cloth)
		}
	}
	for _, s := range []string{
		".x\nx.\n", "x.\n.x\n", "x..\n.xx\n", "xx.\n..x\n", "x..\n.x.\n..x\n", "x..x\n..xx\n.xx.\nxx..\n", "x.x.\n.x.x\n",
	} {
		wantApart(t, read(t, s))
	}
}

// P10.2: the first set of all that come off, of all small grids; and those with
// the fewest threads have none in common.
func TestApart(t *testing.T) {
	for _, g := range small(12) {
		var first []int
		var seen [8]bool
		for _, set := range sets(g.W + g.H) {
			if !isOff(g, set) || first != nil && len(set) > len(first) {
				continue
			}
			if first == nil {
				first = set
			}
			for _, a := range set {
				if seen[a] {
					t.Fatalf("two of the least sets that come off have %d, for%s", a, show(g))
				}
				seen[a] = true
			}
		}
		wantApart(t, g, first...)
	}
}

// P10.2: cloths of all sizes, with sets of one thread and of nearly all.
func TestApartOfSamples(t *testing.T) {
	sizes := map[int]bool{}
	for _, g := range samples() {
		d := distances(g)
		set := firstOff(d)
		wantApart(t, g, set...)
		wantHangs(t, g, isReached(d))
		sizes[len(set)] = true
	}
	for _, n := range []int{0, 1, 4, 9, 64, 124} {
		if !sizes[n] {
			t.Errorf("no first set has %d threads", n)
		}
	}
}

// P10.2: all cells alike, one row and one column.
func TestApartOfLines(t *testing.T) {
	for n := 1; n <= 64; n++ {
		for _, h := range []int{1, n, 64} {
			wantApart(t, blank(n, h, true), 0)
			wantApart(t, blank(n, h, false), n)
		}
		for up := range n {
			wantApart(t, build(n, 1, func(x, y int) bool { return x == up }), up)
			if n > 1 {
				wantApart(t, build(1, n, func(x, y int) bool { return y != up }), 1+up)
			}
		}
	}
	wantApart(t, build(64, 1, func(x, y int) bool { return x > 20 && x != 40 }), 21)
	wantApart(t, build(1, 64, func(x, y int) bool { return y < 20 || y == 40 }), 21)
}

// P10.2: of two cloths, the upper one comes off.
func TestApartOfTwoCloths(t *testing.T) {
	for ends := 2; ends <= 62; ends += 4 {
		for picks := 2; picks <= 62; picks += 5 {
			var upper, lower []int
			for a := range 128 {
				if a < ends || a >= 64 && a < 64+picks {
					upper = append(upper, a)
				} else {
					lower = append(lower, a)
				}
			}
			g := parted(64, 64, ends, picks)
			wantApart(t, g, upper...)
			not, _ := grid.Not(g)
			wantApart(t, not, lower...)
		}
	}
}

// P10.3: of several ways that are equally short the first one is taken, by its
// first number that differs.
func TestSomeWalks(t *testing.T) {
	for _, c := range []struct {
		cloth string
		walk  []int
	}{
		{".x\nx.\n", []int{0, 2, 1, 3, 0, 2, 1, 3, 0}},
		{"x.\n.x\n", []int{0, 3, 1, 2, 0, 3, 1, 2, 0}},
		// From 4 to 0 there are the ways by 1 and 3, and by 2 and 3.
		{"x..\n.xx\n", []int{0, 4, 1, 3, 0, 4, 2, 3, 0, 4, 1, 3, 0}},
		// From 0 to 1 there are the ways by 2 and by 3.
		{".x\nx.\nx.\n", []int{0, 2, 1, 4, 0, 2, 1, 4, 0, 3, 1, 4, 0}},
		// From 3 to 4 there are the ways by 0 and by 1.
		{"xx.\n..x\n", []int{0, 4, 2, 3, 1, 4, 2, 3, 0, 4, 2, 3, 0}},
	} {
		g := read(t, c.cloth)
		wantWalk(t, g, walkOf(g)...)
		wantWalk(t, g, c.walk...)
	}
}

// P10.3
func TestWalk(t *testing.T) {
	n := 0
	for _, g := range small(12) {
		if isReached(distances(g)) {
			wantWalk(t, g, walkOf(g)...)
			n++
		} else {
			wantNoWalk(t, g, api.ErrApart)
		}
	}
	if n < 100 {
		t.Errorf("only %d of the small cloths hang together", n)
	}
}

// P10.3
func TestWalkOfSamples(t *testing.T) {
	most, many := 0, 0
	for _, g := range samples() {
		d := distances(g)
		if !isReached(d) {
			wantNoWalk(t, g, api.ErrApart)
			continue
		}
		walk := shortest(g, d)
		wantWalk(t, g, walk...)
		for _, l := range d {
			most = max(most, slices.Max(l))
		}
		if g.W*g.H >= 63*64 {
			many++
		}
	}
	if most != 127 || many < 8 {
		t.Errorf("the longest way has %d steps, and %d cloths are great", most, many)
	}
}

// P10.3: a walk through ways as long as they can be, in an order of the threads
// in which many of them are long.
func TestLongWalks(t *testing.T) {
	place := func(i int) int {
		if i%2 == 0 {
			return i / 2
		}
		return 63 - i/2
	}
	g := long(64)
	g = build(64, 64, func(x, y int) bool { return g.Bits[place(y)*64+place(x)] })
	walk := shortest(g, distances(g))
	if len(walk) < 4000 {
		t.Errorf("the walk has only %d numbers", len(walk))
	}
	wantWalk(t, g, walk...)
}

// P10.3: all lists of up to six numbers, those of threads and two that are
// none.
func TestAcceptOfShortLists(t *testing.T) {
	for s, most := range map[string]int{".x\nx.\n": 4, "x.\n.x\n": 4, "xx\n.x\n": 0} {
		g := read(t, s)
		whole := 0
		for n := range 7 {
			list := slices.Repeat([]int{-1}, n)
			for {
				want := isWhole(g, list)
				wantAccept(t, g, list, want)
				if want {
					whole++
				}
				i := 0
				for ; i < n && list[i] == 4; i++ {
					list[i] = -1
				}
				if i == n {
					break
				}
				list[i]++
			}
		}
		if whole != most {
			t.Errorf("%d lists are whole walks, want %d, for\n%s", whole, most, s)
		}
	}
}

// P10.3: walks that are whole, wherever they begin, and lists that are not.
func TestAcceptOfSomeLists(t *testing.T) {
	g := read(t, ".x\nx.\n")
	for _, walk := range [][]int{
		{0, 2, 1, 3, 0}, {2, 1, 3, 0, 2}, {1, 3, 0, 2, 1}, {3, 0, 2, 1, 3}, {0, 2, 1, 3, 0, 2, 1, 3, 0},
	} {
		wantAccept(t, g, walk, true)
	}
	for _, list := range [][]int{
		nil, {}, {0}, {0, 0}, {0, 2}, {0, 2, 0}, {0, 2, 1, 3}, {0, 2, 1, 3, 0, 2}, {0, 3, 1, 2, 0}, {0, 1, 2, 3, 0}, {2, 1, 3, 0},
		{0, 2, 1, 3, 4}, {4, 0, 2, 1, 3, 0}, {0, 2, 1, 3, 4, 0}, {4, 0, 2, 1, 3, 4}, {-1, 0, 2, 1, 3, -1}, {0, 2, 1, 3, -1, 0}, {-1, -1}, {4, 4},
		{math.MinInt, 0, 2, 1, 3, 0, math.MinInt}, {math.MaxInt, 0, 2, 1, 3, 0, math.MaxInt}, {0, 2, 1, 3, 0, 0}, {0, 0, 2, 1, 3, 0}, {0, 2, 2, 1, 3, 0},
		{0, 3, 1, 2}, {-1}, {4}, {math.MaxInt},
	} {
		wantAccept(t, g, list, false)
	}
	// A walk that is not whole, and then one that is.
	wide := read(t, "x..\n.xx\n")
	wantAccept(t, wide, []int{0, 4, 1, 3, 0}, false)
	wantAccept(t, wide, []int{0, 4, 2, 3, 0}, false)
	wantAccept(t, wide, []int{0, 4, 1, 3, 0, 4, 2, 3, 0}, true)
}

// P10.3: the walks of cloths with one number left out, put in or another one.
func TestAcceptOfSpoiltWalks(t *testing.T) {
	for _, g := range append(small(9), twill(8, 8, 3, 3), plain(5, 7), long(7), random(17, 5, 4)) {
		walk, e := hang.Walk(g)
		if e == api.ErrApart {
			continue
		}
		for i := range walk {
			without := slices.Delete(slices.Clone(walk), i, i+1)
			wantAccept(t, g, without, isWhole(g, without))
			for a := -1; a <= g.W+g.H; a++ {
				other := slices.Clone(walk)
				other[i] = a
				wantAccept(t, g, other, isWhole(g, other))
				more := slices.Insert(slices.Clone(walk), i, a)
				wantAccept(t, g, more, isWhole(g, more))
			}
			wantAccept(t, g, walk[:i], isWhole(g, walk[:i]))
			wantAccept(t, g, walk[i:], isWhole(g, walk[i:]))
		}
		back := slices.Clone(walk)
		slices.Reverse(back)
		wantAccept(t, g, back, false)
		not, _ := grid.Not(g)
		wantAccept(t, not, walk, false)
		wantAccept(t, not, back, true)
	}
}

// P10.3: lists of 20,000 numbers and fewer are read, and no longer ones. A walk
// has an odd number of them, since ends and picks take turns.
func TestAcceptOfLongLists(t *testing.T) {
	six := read(t, "..x\n.x.\nx..\n")
	list := func(n int) []int { return slices.Repeat([]int{0, 3, 1, 4, 2, 5}, n/6+1)[:n] }
	for _, n := range []int{7, 13, 19993, 19999} {
		wantAccept(t, six, list(n), true)
	}
	for _, n := range []int{19994, 19997, 19998, 20000} {
		wantAccept(t, six, list(n), false)
	}
	wantAccept(t, six, slices.Repeat([]int{0}, 20000), false)
	wantAccept(t, six, append(list(19999), 0), false)
	wantAccept(t, six, append(list(19998), -1, 0), false)
	wantAccept(t, six, append(list(19997), 4, 0), false)
	for _, l := range [][]int{
		list(20001), append(list(19999), 3, 0), slices.Repeat([]int{0}, 20001), slices.Repeat([]int{-1}, 20001), list(20005), list(1 << 20),
	} {
		if is, e := hang.Accept(six, l); is || e != api.ErrMany {
			t.Errorf("Accept of %d numbers: %v, %d", len(l), is, e)
		}
	}
	plain := read(t, ".x\nx.\n")
	wantAccept(t, plain, slices.Repeat([]int{0, 2, 1, 3}, 5000)[:19997], true)
	if is, e := hang.Accept(plain, append(slices.Repeat([]int{0, 2, 1, 3}, 5000), 0)); is || e != api.ErrMany {
		t.Errorf("Accept of 20,001 numbers of a whole walk: %v, %d", is, e)
	}
	// No list is a whole walk of a cloth that falls apart.
	apart := read(t, "x.\n")
	wantAccept(t, apart, slices.Repeat([]int{0}, 20000), false)
	if is, e := hang.Accept(apart, make([]int, 20001)); is || e != api.ErrMany {
		t.Errorf("Accept of 20,001 numbers: %v, %d", is, e)
	}
}

// P10.4: just the cloths that hang together have a whole walk, and of just the
// other ones a set comes off.
func TestCertificates(t *testing.T) {
	for _, g := range append(samples(), small(12)...) {
		hangs, e := hang.Hangs(g)
		walk, f := hang.Walk(g)
		set, k := hang.Apart(g)
		if e != api.OK || k != api.OK || hangs != (f == api.OK) || hangs != (len(set) == 0) {
			t.Fatalf("%v, %d and %d, %v and %d, for%s", hangs, e, f, set, k, show(g))
		}
		if hangs {
			wantAccept(t, g, walk, true)
		} else {
			wantOff(t, g, set, true)
		}
	}
}

// P10.4: a thread that lies over all that it crosses, or below all.
func TestThreadsOnOneSide(t *testing.T) {
	for i, g := range append(samples(), small(10)...) {
		for _, isUp := range []bool{false, true} {
			x, y := i%g.W, i%g.H
			end := build(g.W, g.H, func(k, l int) bool { return k == x && isUp || k != x && g.Bits[l*g.W+k] })
			wantHangs(t, end, false)
			pick := build(g.W, g.H, func(k, l int) bool { return l == y && isUp || l != y && g.Bits[l*g.W+k] })
			wantHangs(t, pick, false)
		}
	}
}

// P10.4: up and down exchanged, turned, mirrored, shifted and tiled.
func TestOtherViews(t *testing.T) {
	for i, g := range append(samples(), small(10)...) {
		hangs, _ := hang.Hangs(g)
		views := []func() (api.Grid, api.Errno){
			func() (api.Grid, api.Errno) { return grid.Not(g) },
			func() (api.Grid, api.Errno) { return grid.Turn(g) },
			func() (api.Grid, api.Errno) { return grid.Mirror(g, 0) },
			func() (api.Grid, api.Errno) { return grid.Mirror(g, 1) },
			func() (api.Grid, api.Errno) { return grid.Shift(g, 1, 0) },
			func() (api.Grid, api.Errno) { return grid.Shift(g, i, -i/3) },
			func() (api.Grid, api.Errno) { return grid.Tile(g, min(2, 64/g.W), min(3, 64/g.H)) },
			func() (api.Grid, api.Errno) { return grid.Tile(g, 64/g.W, 1) },
			func() (api.Grid, api.Errno) { return grid.Tile(g, 1, 64/g.H) },
		}
		for _, view := range views {
			other, e := view()
			if e != api.OK {
				t.Fatalf("%d, for%s", e, show(g))
			}
			wantHangs(t, other, hangs)
		}
	}
}

// P10.4: a column or a row that is there twice, at any place.
func TestThreadsThereTwice(t *testing.T) {
	for i, g := range append(samples(), small(10)...) {
		hangs, _ := hang.Hangs(g)
		for at := range min(g.W, 3) {
			from, to := (at+i)%g.W, (at*5+i/2)%(g.W+1)
			if g.W == 64 {
				break
			}
			wantHangs(t, build(g.W+1, g.H, func(x, y int) bool { return g.Bits[y*g.W+without(x, from, to)] }), hangs)
		}
		for at := range min(g.H, 3) {
			from, to := (at+i)%g.H, (at*5+i/2)%(g.H+1)
			if g.H == 64 {
				break
			}
			wantHangs(t, build(g.W, g.H+1, func(x, y int) bool { return g.Bits[without(y, from, to)*g.W+x] }), hangs)
		}
	}
}

// without returns which of some threads is at a place, if the thread from is
// there once more, at the place to.
func without(i, from, to int) int {
	switch {
	case i == to:
		return from
	case i > to:
		return i - 1
	}
	return i
}

// P10.4: of up to four cells, only plain weave hangs together.
func TestLeastCloths(t *testing.T) {
	a := plain(2, 2)
	b, _ := grid.Not(a)
	for _, g := range small(4) {
		wantHangs(t, g, grid.Same(g, a) || grid.Same(g, b))
	}
}
