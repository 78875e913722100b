package satin_test

import (
	"math"
	"slices"
	"testing"

	"raddle/api"
	"raddle/grid"
	"raddle/repeat"
	"raddle/satin"
)

// read returns the grid with a text.
func read(t *testing.T, s string) api.Grid {
	t.Helper()
	g, e := grid.Parse(s)
	if e != api.OK {
		t.Fatalf("Parse(%q): %d", s, e)
	}
	return g
}

// show returns the text of a grid on lines of their own.
func show(g api.Grid) string {
	s, e := grid.Text(g)
	if e != api.OK {
		return "no grid"
	}
	return "\n" + s
}

// build returns the grid with these sides and cells.
func build(w, h int, up func(x, y int) bool) api.Grid {
	g := api.Grid{W: w, H: h}
	for y := range h {
		for x := range w {
			g.Bits = append(g.Bits, up(x, y))
		}
	}
	return g
}

// blank returns the grid whose cells are all up, or all down.
func blank(w, h int, up bool) api.Grid {
	return build(w, h, func(int, int) bool { return up })
}

// dot returns the grid of which only one cell is up.
func dot(w, h, x, y int) api.Grid {
	return build(w, h, func(i, k int) bool { return i == x && k == y })
}

// random returns a grid whose cells follow no rule.
func random(w, h int) api.Grid {
	seed := uint32(w*100 + h)
	return build(w, h, func(int, int) bool {
		seed = seed*1664525 + 1013904223
		return seed>>30 == 0 || seed>>28 == 9
	})
}

// small returns all grids with up to most cells.
func small(most int) []api.Grid {
	var l []api.Grid
	for w := 1; w <= most; w++ {
		for h := 1; w*h <= most; h++ {
			for v := range 1 << (w * h) {
				l = append(l, build(w, h, func(x, y int) bool { return v>>(y*w+x)&1 == 1 }))
			}
		}
	}
	return l
}

// rest is written otherwise than in the package.
func rest(v, n int) int {
	v %= n
	if v < 0 {
		v += n
	}
	return v
}

// areApart reports whether two numbers have no common divisor but 1.
func areApart(a, b int) bool {
	for d := 2; d <= a; d++ {
		if a%d == 0 && b%d == 0 {
			return false
		}
	}
	return true
}

// movesOf finds the moves of a number by their definition.
func movesOf(n int) []int {
	var l []int
	for m := 2; m <= n-2; m++ {
		if areApart(n, m) {
			l = append(l, m)
		}
	}
	return l
}

// satinOf makes a satin by its definition.
func satinOf(n, m int) api.Grid {
	return build(n, n, func(x, y int) bool { return x == m*y%n })
}

// lineOf makes the row of some runs by its definition.
func lineOf(runs []int) []bool {
	var row []bool
	for i, n := range runs {
		row = append(row, slices.Repeat([]bool{i%2 == 0}, n)...)
	}
	return row
}

// twillOf makes a twill by its definition, with rows until the first one would
// come again.
func twillOf(runs []int, step int) api.Grid {
	row := lineOf(runs)
	n := len(row)
	// Steps that differ by multiples of the sum are the same.
	step = rest(step, n)
	h := 1
	for h*step%n != 0 {
		h++
	}
	return build(n, h, func(x, y int) bool { return row[rest(x-step*y, n)] })
}

// up returns the cell (x, y) of the plane of a grid.
func up(g api.Grid, x, y int) bool { return g.Bits[rest(y, g.H)*g.W+rest(x, g.W)] }

// isRepeat reports whether a step is a repeat of a grid, by its definition.
func isRepeat(g api.Grid, dx, dy int) bool {
	for y := range g.H {
		for x := range g.W {
			if up(g, x, y) != up(g, x+dx, y+dy) {
				return false
			}
		}
	}
	return true
}

// width returns the A of the lattice of a grid.
func width(g api.Grid) int {
	a := 1
	for !isRepeat(g, a, 0) {
		a++
	}
	return a
}

// goesBy finds the moves by which a cloth goes, by their definition.
func goesBy(g api.Grid) []int {
	var l []int
	for m := range width(g) {
		if isRepeat(g, m, 1) {
			l = append(l, m)
		}
	}
	return l
}

// known is what Is says of a cloth that is a satin.
type known struct {
	n, move int
	up      bool
}

// isSatin recognises a satin by its definition.
func isSatin(g api.Grid) (known, bool) {
	a := width(g)
	for _, m := range goesBy(g) {
		if a < 5 || !slices.Contains(movesOf(a), m) {
			continue
		}
		ups := 0
		for x := range a {
			if up(g, x, 0) {
				ups++
			}
		}
		if ups == 1 || ups == a-1 {
			return known{a, m, ups == 1}, true
		}
	}
	return known{}, false
}

// runLists returns all lists of numbers that are at least 1 and have the sum
// n.
func runLists(n int) [][]int {
	if n == 0 {
		return [][]int{nil}
	}
	var all [][]int
	for first := 1; first <= n; first++ {
		for _, l := range runLists(n - first) {
			all = append(all, append([]int{first}, l...))
		}
	}
	return all
}

// runsUpTo returns all runs with a sum of at most most.
func runsUpTo(most int) [][]int {
	var all [][]int
	for n := range most + 1 {
		for _, l := range runLists(n) {
			if len(l) > 0 && len(l)%2 == 0 {
				all = append(all, l)
			}
		}
	}
	return all
}

// greatRuns returns runs with great sums, and with many runs.
func greatRuns() [][]int {
	return [][]int{
		slices.Repeat([]int{1}, 64), slices.Repeat([]int{1}, 62), slices.Repeat([]int{2}, 32), slices.Repeat([]int{1, 3}, 16),
		{32, 32}, {1, 63}, {63, 1}, {16, 48}, {31, 30}, {31, 32}, {60, 2, 1, 1}, {1, 1, 1, 61}, {30, 1, 2, 30},
		append(slices.Repeat([]int{1}, 61), 3), {7, 5, 11, 13, 17, 11}, {20, 20, 20, 1},
	}
}

// samples returns grids of many sizes, up to the greatest ones.
func samples() []api.Grid {
	l := []api.Grid{
		blank(64, 64, false), blank(64, 64, true), blank(64, 1, true), blank(1, 64, false), blank(3, 5, true), blank(5, 3, false),
		dot(64, 64, 0, 0), dot(64, 64, 63, 63), dot(64, 1, 17, 0), dot(1, 64, 0, 40), dot(5, 5, 2, 2), dot(5, 1, 2, 0),
		build(64, 64, func(x, y int) bool { return (x+y)%2 == 0 }),
		build(64, 64, func(x, y int) bool { return x < y }),
		build(64, 64, func(x, y int) bool { return x%2 == 0 }),
		build(64, 64, func(x, y int) bool { return y/16%2 == 0 }),
		build(64, 64, func(x, y int) bool { return (x+y/2)%4 == 0 }),
	}
	for _, s := range [][2]int{{64, 64}, {63, 64}, {64, 1}, {1, 64}, {2, 64}, {64, 2}, {17, 5}, {5, 17}, {11, 13}} {
		l = append(l, random(s[0], s[1]))
	}
	for _, runs := range append(greatRuns(), []int{1, 4}, []int{2, 3}, []int{1, 1, 1, 5}, []int{3, 5}) {
		for _, step := range []int{0, 1, 2, 3, 4, 16, 31} {
			l = append(l, twillOf(runs, step))
		}
	}
	return l
}

// satins calls f with all satins, by their numbers and moves.
func satins(f func(n, m int, g api.Grid)) {
	for n := 5; n <= 64; n++ {
		for _, m := range movesOf(n) {
			f(n, m, satinOf(n, m))
		}
	}
}

// wantGrid checks a grid that was returned.
func wantGrid(t *testing.T, what string, g api.Grid, e api.Errno, want api.Grid) {
	t.Helper()
	if !grid.Same(g, want) || e != api.OK {
		t.Fatalf("%s: %d,%s\nwant%s", what, e, show(g), show(want))
	}
}

// wantCounters checks the moves of a number.
func wantCounters(t *testing.T, n int, want ...int) {
	t.Helper()
	if l, e := satin.Counters(n); !slices.Equal(l, want) || e != api.OK {
		t.Fatalf("Counters(%d): %v, %d, want %v", n, l, e, want)
	}
}

// wantTwill checks a twill.
func wantTwill(t *testing.T, runs []int, step int, want api.Grid) {
	t.Helper()
	g, e := satin.Twill(runs, step)
	if !grid.Same(g, want) || e != api.OK {
		t.Fatalf("Twill(%v, %d): %d,%s\nwant%s", runs, step, e, show(g), show(want))
	}
}

// wantRuns checks the runs of a row.
func wantRuns(t *testing.T, row []bool, want ...int) {
	t.Helper()
	if l, e := satin.Runs(row); !slices.Equal(l, want) || e != api.OK {
		t.Fatalf("Runs(%v): %v, %d, want %v", row, l, e, want)
	}
}

// wantMoves checks the moves by which a cloth goes.
func wantMoves(t *testing.T, g api.Grid, want ...int) {
	t.Helper()
	if l, e := satin.Moves(g); !slices.Equal(l, want) || e != api.OK {
		t.Fatalf("Moves: %v, %d, want %v, for%s", l, e, want, show(g))
	}
}

// wantSatin checks that a cloth is recognised as a satin.
func wantSatin(t *testing.T, g api.Grid, want known) {
	t.Helper()
	n, move, isUp, e := satin.Is(g)
	if (known{n, move, isUp}) != want || e != api.OK {
		t.Fatalf("Is: %d, %d, %v, %d, want %v, for%s", n, move, isUp, e, want, show(g))
	}
}

// wantNoSatin checks that a cloth is not recognised as a satin.
func wantNoSatin(t *testing.T, g api.Grid, want api.Errno) {
	t.Helper()
	if n, move, isUp, e := satin.Is(g); n != 0 || move != 0 || isUp || e != want {
		t.Fatalf("Is: %d, %d, %v, %d, want %d, for%s", n, move, isUp, e, want, show(g))
	}
}

// wantIs checks what Is says of a cloth, by the definition.
func wantIs(t *testing.T, g api.Grid) {
	t.Helper()
	if want, is := isSatin(g); is {
		wantSatin(t, g, want)
	} else {
		wantNoSatin(t, g, api.ErrNone)
	}
}

func TestExamples(t *testing.T) {
	wantCounters(t, 5, 2, 3)
	wantCounters(t, 8, 3, 5)
	wantCounters(t, 6)
	g, e := satin.Satin(5, 2)
	wantGrid(t, "Satin(5, 2)", g, e, read(t, "...x.\n.x...\n....x\n..x..\nx....\n"))
	wantTwill(t, []int{2, 2}, 1, read(t, "x..x\n..xx\n.xx.\nxx..\n"))
	wantRuns(t, []bool{true, true, false, true, false, false}, 2, 1, 1, 2)
}

// P9.1: numbers that are primes and numbers that are not, the least and the
// greatest move.
func TestCountersOfSomeNumbers(t *testing.T) {
	wantCounters(t, 7, 2, 3, 4, 5)
	wantCounters(t, 9, 2, 4, 5, 7)
	wantCounters(t, 10, 3, 7)
	wantCounters(t, 11, 2, 3, 4, 5, 6, 7, 8, 9)
	wantCounters(t, 12, 5, 7)
	wantCounters(t, 30, 7, 11, 13, 17, 19, 23)
	var odd, all []int
	for m := 3; m <= 61; m += 2 {
		odd = append(odd, m)
	}
	wantCounters(t, 64, odd...)
	for m := 2; m <= 59; m++ {
		all = append(all, m)
	}
	wantCounters(t, 61, all...)
}

// P9.1
func TestCounters(t *testing.T) {
	for n := 5; n <= 64; n++ {
		wantCounters(t, n, movesOf(n)...)
	}
}

// P9.1: the first row has its cell in the first column.
func TestSomeSatins(t *testing.T) {
	g, e := satin.Satin(5, 3)
	wantGrid(t, "Satin(5, 3)", g, e, read(t, "..x..\n....x\n.x...\n...x.\nx....\n"))
	g, e = satin.Satin(8, 3)
	wantGrid(t, "Satin(8, 3)", g, e, read(t, ".....x..\n..x.....\n.......x\n....x...\n.x......\n......x.\n...x....\nx.......\n"))
	g, e = satin.Satin(64, 61)
	wantGrid(t, "Satin(64, 61)", g, e, satinOf(64, 61))
}

// P9.1
func TestSatin(t *testing.T) {
	satins(func(n, m int, want api.Grid) {
		g, e := satin.Satin(n, m)
		wantGrid(t, "Satin", g, e, want)
	})
}

// P9.2: steps of 0, less than 0, of the sum and greater than it, and such as
// have a divisor in common with the sum.
func TestSomeTwills(t *testing.T) {
	for _, c := range []struct {
		runs  []int
		step  int
		cloth string
	}{
		{[]int{2, 2}, 0, "xx..\n"},
		{[]int{2, 2}, 4, "xx..\n"},
		{[]int{2, 2}, -8, "xx..\n"},
		{[]int{2, 2}, -1, ".xx.\n..xx\nx..x\nxx..\n"},
		{[]int{2, 2}, 2, "..xx\nxx..\n"},
		{[]int{2, 2}, -2, "..xx\nxx..\n"},
		{[]int{2, 2}, 5, "x..x\n..xx\n.xx.\nxx..\n"},
		{[]int{1, 1}, 1, ".x\nx.\n"},
		{[]int{1, 1}, -1, ".x\nx.\n"},
		{[]int{1, 1}, 2, "x.\n"},
		{[]int{3, 1, 1, 1}, 2, "x.x.xx\nx.xxx.\nxxx.x.\n"},
		{[]int{1, 2}, 2, ".x.\n..x\nx..\n"},
		{[]int{2, 1}, 1, "x.x\n.xx\nxx.\n"},
		{[]int{2, 4}, 3, "...xx.\nxx....\n"},
		{[]int{2, 4}, 4, "..xx..\n....xx\nxx....\n"},
	} {
		wantTwill(t, c.runs, c.step, read(t, c.cloth))
	}
}

// P9.2
func TestTwill(t *testing.T) {
	for _, runs := range runsUpTo(9) {
		for step := -20; step <= 20; step++ {
			wantTwill(t, runs, step, twillOf(runs, step))
		}
	}
	for _, runs := range greatRuns() {
		for step := -130; step <= 130; step++ {
			wantTwill(t, runs, step, twillOf(runs, step))
		}
	}
}

// P9.2: any step, the greatest and the least ones too.
func TestTwillFar(t *testing.T) {
	for _, runs := range append(greatRuns(), runsUpTo(7)...) {
		for _, far := range []int{math.MinInt, math.MaxInt - 70, 1 << 40, -1 << 40, 1e18, -1e18} {
			for k := range 11 {
				wantTwill(t, runs, far+7*k, twillOf(runs, far+7*k))
			}
		}
	}
}

// P9.2: the sum divided by the greatest common divisor of it and the step tells
// the rows, also where the runs repeat and a row comes again before.
func TestRowsOfTwills(t *testing.T) {
	for _, c := range []struct {
		runs       []int
		step, rows int
	}{
		{[]int{2, 2, 2, 2}, 4, 2}, {[]int{2, 2, 2, 2}, 2, 4}, {[]int{1, 1, 1, 1}, 1, 4}, {[]int{1, 1, 1, 1}, 2, 2},
		{slices.Repeat([]int{1}, 64), 1, 64}, {slices.Repeat([]int{1}, 64), 2, 32}, {slices.Repeat([]int{1}, 64), 32, 2},
		{[]int{32, 32}, 63, 64}, {[]int{32, 32}, 48, 4}, {[]int{32, 32}, 64, 1}, {[]int{30, 31}, 5, 61}, {[]int{30, 30}, 25, 12},
	} {
		if g, e := satin.Twill(c.runs, c.step); g.H != c.rows || e != api.OK {
			t.Errorf("Twill(%v, %d): %d rows, %d, want %d", c.runs, c.step, g.H, e, c.rows)
		}
	}
}

// P9.2: rows of 2 and of MaxSide cells.
func TestSomeRuns(t *testing.T) {
	wantRuns(t, []bool{true, false}, 1, 1)
	wantRuns(t, []bool{true, true, false}, 2, 1)
	wantRuns(t, []bool{true, false, false}, 1, 2)
	wantRuns(t, []bool{true, false, true, false}, 1, 1, 1, 1)
	wantRuns(t, slices.Repeat([]bool{true, false}, 32), slices.Repeat([]int{1}, 64)...)
	wantRuns(t, append([]bool{true}, make([]bool, 63)...), 1, 63)
	wantRuns(t, append(slices.Repeat([]bool{true}, 63), false), 63, 1)
	wantRuns(t, append(slices.Repeat([]bool{true}, 32), make([]bool, 32)...), 32, 32)
}

// P9.2, P9.4: the runs of the row of some runs are these runs, and the row of
// the runs of a row is this row.
func TestRunsOfRows(t *testing.T) {
	for _, runs := range append(runsUpTo(12), greatRuns()...) {
		wantRuns(t, lineOf(runs), runs...)
		g, _ := satin.Twill(runs, 1)
		wantRuns(t, g.Bits[:g.W], runs...)
	}
}

// P9.3: cloths that go by a move and cloths that go by none, the move 0, grids
// of one cell, of one column and of one row.
func TestSomeMoves(t *testing.T) {
	for _, c := range []struct {
		cloth string
		moves []int
	}{
		{"x\n", []int{0}},
		{".\n", []int{0}},
		{"x\nx\n", []int{0}},
		{".\nx\n", nil},
		{"x\n.\nx\n", nil},
		{"x..x.\n", []int{0}},
		{"xx\n", []int{0}},
		{"xx.\nxx.\n", []int{0}},
		{".x\nx.\n", []int{1}},
		{".x\n.x\nx.\nx.\n", nil},
		{"x..x\n..xx\n.xx.\nxx..\n", []int{1}},
		{"xx..\n.xx.\n..xx\nx..x\n", []int{3}},
		{"..xx\nxx..\n", []int{2}},
		{"x.x.x.\n.x.x.x\n", []int{1}},
		{"x...\n....\n", nil},
		{"...x.\n.x...\n....x\n..x..\nx....\n", []int{2}},
		{"...x.\n.x...\n..x..\n....x\nx....\n", nil},
		{"xx..\n..xx\nxx..\n", nil},
	} {
		wantMoves(t, read(t, c.cloth), c.moves...)
	}
	wantMoves(t, blank(64, 64, true), 0)
	wantMoves(t, blank(1, 64, false), 0)
	wantMoves(t, random(64, 1), 0)
	wantMoves(t, random(1, 64))
	wantMoves(t, dot(64, 64, 63, 63))
	wantMoves(t, build(64, 64, func(x, y int) bool { return (x+y)%64 < 5 }), 63)
	wantMoves(t, build(64, 64, func(x, y int) bool { return rest(x-y, 64) < 5 }), 1)
	// The first row comes again before the move has come around.
	wantMoves(t, build(64, 62, func(x, y int) bool { return rest(x-y, 64) < 5 }))
}

// P9.3
func TestMoves(t *testing.T) {
	for _, g := range append(samples(), small(11)...) {
		wantMoves(t, g, goesBy(g)...)
	}
	satins(func(n, m int, g api.Grid) { wantMoves(t, g, m) })
}

// P9.3: cloths that go by a move and are no satin.
func TestNoSatins(t *testing.T) {
	for _, s := range []string{
		"x\n", ".\n", ".x\nx.\n", "x..\n", "x....\n", "x\n.\n.\n.\n.\n", ".\n.\n",
		// The numbers are less than 5.
		"..x\n.x.\nx..\n", "...x\n..x.\n.x..\nx...\n", "..x.\nx...\n",
		// The moves are 0, 1 and n - 1.
		"x....\nx....\n", "....x\n...x.\n..x..\n.x...\nx....\n", ".x...\n..x..\n...x.\n....x\nx....\n",
		// The moves have a divisor in common with the number.
		"....x.\n..x...\nx.....\n", "...x..\nx.....\n", "..x...\n....x.\nx.....\n", "......x.\n....x...\n..x.....\nx.......\n",
		// More than one cell is up, and more than one down.
		"...xx\n.xx..\nx...x\n..xx.\nxx...\n", "x..x.\n.x.x.\n.x..x\n..x.x\nx.x..\n", ".xx.x\nxx.x.\nx.x.x\n.x.xx\nx.xx.\n",
		// Another cell is up, or none.
		"...x.\n.x...\n....x\n..x..\n.....\n", "...x.\n.x...\n....x\n..x..\nx...x\n", "...x.\n.x...\n..x..\n....x\nx....\n",
		// The satins of rows that are there twice.
		"...x.\n...x.\n.x...\n.x...\n....x\n....x\n..x..\n..x..\nx....\nx....\n",
		// The number is that of the lattice, not that of the columns.
		".x.x.x.x\nx.x.x.x.\n", "...x...x\n..x...x.\n.x...x..\nx...x...\n",
	} {
		wantNoSatin(t, read(t, s), api.ErrNone)
	}
	for _, g := range []api.Grid{blank(64, 64, true), blank(64, 64, false), blank(5, 5, true), blank(5, 5, false), random(64, 64), dot(64, 64, 0, 0)} {
		wantNoSatin(t, g, api.ErrNone)
	}
}

// P9.3, P9.4: twills of one cell that is up, or down, are satins if their step
// is a move.
func TestStepsOfSatins(t *testing.T) {
	for n := 2; n <= 64; n++ {
		for step := range n {
			isMove := slices.Contains(movesOf(n), step)
			for _, runs := range [][]int{{1, n - 1}, {n - 1, 1}} {
				g, _ := satin.Twill(runs, step)
				if isMove {
					wantSatin(t, g, known{n, step, runs[0] == 1})
				} else {
					wantNoSatin(t, g, api.ErrNone)
				}
			}
		}
	}
}

// P9.3: with two cells that are up, or down, no twill is a satin.
func TestTwillsOfTwoCells(t *testing.T) {
	for n := 4; n <= 64; n++ {
		for _, step := range append(movesOf(n), 0, 1, n-1) {
			for _, runs := range [][]int{{2, n - 2}, {n - 2, 2}, {1, 1, 1, n - 3}} {
				g, _ := satin.Twill(runs, step)
				wantNoSatin(t, g, api.ErrNone)
			}
		}
	}
}

// P9.3
func TestIs(t *testing.T) {
	for _, g := range append(samples(), small(11)...) {
		wantIs(t, g)
	}
}

// P9.3: the number of a satin is the A of its lattice, also if its runs repeat.
func TestSatinsOfRunsThatRepeat(t *testing.T) {
	for _, step := range []int{2, 7, -3} {
		g, _ := satin.Twill([]int{1, 4, 1, 4}, step)
		wantSatin(t, g, known{5, 2, true})
		g, _ = satin.Twill([]int{4, 1, 4, 1, 4, 1}, step+5)
		wantSatin(t, g, known{5, 2, false})
	}
	g, _ := satin.Twill([]int{1, 4, 1, 4}, 3)
	wantSatin(t, g, known{5, 3, true})
	for _, step := range []int{0, 1, 4, 5, 6} {
		g, _ = satin.Twill([]int{1, 4, 1, 4}, step)
		wantNoSatin(t, g, api.ErrNone)
	}
}

// P9.3: a satin with one cell exchanged, and one with two rows exchanged, is
// none, the last cell and the last rows too.
func TestSpoiltSatins(t *testing.T) {
	satins(func(n, m int, g api.Grid) {
		for _, i := range []int{0, 1, n - 1, n, n * n / 2, n*n - n, n*n - 1} {
			spoilt := api.Grid{W: n, H: n, Bits: slices.Clone(g.Bits)}
			spoilt.Bits[i] = !spoilt.Bits[i]
			wantNoSatin(t, spoilt, api.ErrNone)
			wantMoves(t, spoilt)
		}
		for _, y := range []int{0, n / 2, n - 2} {
			spoilt := build(n, n, func(x, k int) bool {
				switch k {
				case y:
					k++
				case y + 1:
					k--
				}
				return g.Bits[k*n+x]
			})
			wantNoSatin(t, spoilt, api.ErrNone)
			wantMoves(t, spoilt)
		}
	})
}

// P9.4: a satin is recognised wherever it begins, with up and down exchanged,
// and repeated.
func TestSatinsAreRecognised(t *testing.T) {
	satins(func(n, m int, _ api.Grid) {
		g, _ := satin.Satin(n, m)
		starts := []api.Point{{}, {X: 1}, {Y: 1}, {X: n - 1, Y: n - 2}, {X: n / 2, Y: m}}
		for _, p := range starts {
			moved, _ := grid.Shift(g, p.X, p.Y)
			not, _ := grid.Not(moved)
			wantSatin(t, moved, known{n, m, true})
			wantSatin(t, not, known{n, m, false})
			for _, times := range []api.Point{{X: 2, Y: 1}, {X: 1, Y: 2}, {X: 64 / n, Y: 64 / n}} {
				wide, e := grid.Tile(moved, times.X, times.Y)
				if e != api.OK {
					continue
				}
				wantSatin(t, wide, known{n, m, true})
				not, _ := grid.Not(wide)
				wantSatin(t, not, known{n, m, false})
			}
		}
	})
}

// P9.4: wherever the satins of a few numbers begin.
func TestSatinsBeginAnywhere(t *testing.T) {
	for n := 5; n <= 13; n++ {
		for _, m := range movesOf(n) {
			g, _ := satin.Satin(n, m)
			for dy := range n {
				for dx := range n {
					moved, _ := grid.Shift(g, dx, dy)
					wantSatin(t, moved, known{n, m, true})
				}
			}
		}
	}
}

// P9.4
func TestThreadsOfSatins(t *testing.T) {
	satins(func(n, m int, _ api.Grid) {
		g, _ := satin.Satin(n, m)
		ends, picks := make([]int, n), make([]int, n)
		for i, isUp := range g.Bits {
			if isUp {
				ends[i%n]++
				picks[i/n]++
			}
		}
		for _, l := range [][]int{ends, picks} {
			if slices.Min(l) != 1 || slices.Max(l) != 1 {
				t.Fatalf("the threads of the satin of %d and %d have %v cells that are up", n, m, l)
			}
		}
	})
}

// P9.4: a twill goes by its step. Where its runs repeat, its A is less than the
// sum, and its move the rest of the step.
func TestTwillsGoByTheirSteps(t *testing.T) {
	for _, runs := range append(runsUpTo(8), greatRuns()...) {
		for _, step := range []int{0, 1, 2, 3, 5, 6, 31, 64, -1, -2, -63} {
			g, _ := satin.Twill(runs, step)
			if is, e := repeat.Is(g, step, 1); !is || e != api.OK {
				t.Fatalf("the twill of %v does not go by %d", runs, step)
			}
			wantMoves(t, g, rest(step, width(g)))
		}
	}
	g, _ := satin.Twill([]int{1, 2, 1, 2}, 5)
	wantMoves(t, g, 2)
}

// P9.4: no cloth is a satin of 6, and none is one of less than 5.
func TestNoSatinOfSix(t *testing.T) {
	wantCounters(t, 6)
	for m := -1; m <= 7; m++ {
		if g, e := satin.Satin(6, m); !grid.Same(g, api.Grid{}) || e != api.ErrArg {
			t.Errorf("Satin(6, %d): %d,%s", m, e, show(g))
		}
		for _, runs := range runLists(6) {
			if len(runs)%2 == 0 {
				g, _ := satin.Twill(runs, m)
				wantNoSatin(t, g, api.ErrNone)
			}
		}
	}
}

// P9.4: turned, a satin is that of n and k, where m * k is 1 modulo n, and
// mirrored, that of n and n - m.
func TestTurnedAndMirroredSatins(t *testing.T) {
	satins(func(n, m int, _ api.Grid) {
		k := 1
		for m*k%n != 1 {
			k++
		}
		g, _ := satin.Satin(n, m)
		turned, _ := grid.Turn(g)
		wantSatin(t, turned, known{n, k, true})
		other, e := satin.Satin(n, k)
		if e != api.OK {
			t.Fatalf("%d is no move of %d", k, n)
		}
		if _, e := repeat.Offset(turned, other); e != api.OK {
			t.Fatalf("the satin of %d and %d, turned, is not that of %d, moved", n, m, k)
		}
		other, e = satin.Satin(n, n-m)
		if e != api.OK {
			t.Fatalf("%d is no move of %d", n-m, n)
		}
		for axis := range 2 {
			mirrored, _ := grid.Mirror(g, axis)
			wantSatin(t, mirrored, known{n, n - m, true})
			if _, e := repeat.Offset(mirrored, other); e != api.OK {
				t.Fatalf("the satin of %d and %d, mirrored along %d, is not that of %d, moved", n, m, axis, n-m)
			}
			not, _ := grid.Not(mirrored)
			wantSatin(t, not, known{n, n - m, false})
		}
	})
}
