package network_test

import (
	"math"
	"slices"
	"testing"

	"raddle/api"
	"raddle/network"
)

// wantLine checks the line of some points.
func wantLine(t *testing.T, points []api.Point, want []int) {
	t.Helper()
	if l, e := network.Line(points); !slices.Equal(l, want) || e != api.OK {
		t.Fatalf("Line of %v: %v, %d, want %v", points, l, e, want)
	}
}

// wantNoLine checks that points have no line.
func wantNoLine(t *testing.T, points []api.Point) {
	t.Helper()
	if l, e := network.Line(points); len(l) != 0 || e != api.ErrBad {
		t.Fatalf("Line of %v: %v, %d", points, l, e)
	}
}

// path returns points that have these numbers, X and Y in turn.
func path(numbers ...int) []api.Point {
	var l []api.Point
	for p := range slices.Chunk(numbers, 2) {
		l = append(l, api.Point{X: p[0], Y: p[1]})
	}
	return l
}

// P16.2: the threadings of some lines, by hand.
func TestDraw(t *testing.T) {
	four := func(h int) []int { return []int{h, h, h, h} }
	for _, c := range []struct {
		n          api.Net
		line, want []int
	}{
		{net(1, 1, 0), []int{0, 1, 1000}, []int{0, 0, 0}},
		{net(5, 1, 0), []int{0, 1, 4, 5, 1000}, []int{0, 1, 4, 4, 4}},
		{net(3, 3, 1), []int{0, 1, 2, 1000}, []int{1, 1, 1, 1}},
		{eight(), four(0), []int{0, 1, 2, 3}},
		{eight(), four(2), []int{0, 1, 2, 3}}, // as far from 4 as from 0
		{eight(), four(3), []int{4, 1, 2, 3}}, // from 5 as from 1
		{eight(), four(4), []int{4, 5, 2, 3}},
		{eight(), four(5), []int{4, 5, 6, 3}},
		{eight(), four(6), []int{4, 5, 6, 7}},
		{eight(), four(7), []int{4, 5, 6, 7}},
		{eight(), four(8), []int{4, 5, 6, 7}},
		{eight(), four(1000), []int{4, 5, 6, 7}},
		{eight(), []int{0, 1, 2, 3, 4, 5, 6, 7}, []int{0, 1, 2, 3, 4, 5, 6, 7}},
		{eight(), []int{6}, []int{4}},
		{net(9, 3, 0), []int{0, 1, 2, 3, 4, 5, 6, 7, 8}, []int{0, 0, 3, 3, 3, 6, 6, 6, 6}},
		{net(40, 20, 19, 0), []int{29, 10, 30, 11, 0, 1000}, []int{19, 0, 39, 20, 19, 20}},
		{net(40, 40, 39, 0), []int{0, 1000}, []int{39, 0}},
		{net(40, 8, 7), []int{11, 12, 19, 20, 27, 35, 36}, []int{7, 15, 15, 23, 23, 31, 39}},
		{net(40, 1, 0), []int{39, 40, 41, 999, 1000, 0}, []int{39, 39, 39, 39, 39, 0}},
	} {
		wantDraw(t, c.n, c.line, c.want, api.OK)
	}
}

// P16.2: all heights up to some above all shafts, and some great ones, for each
// end of a Base.
func TestDrawOfAll(t *testing.T) {
	for _, n := range nets() {
		heights := []int{63, 64, 100, 499, 500, 998, 999, 1000}
		for h := range n.Shafts + 9 {
			heights = append(heights, h)
		}
		for _, h := range heights {
			line := slices.Repeat([]int{h}, len(n.Base))
			wantDraw(t, n, line, drawnOf(n, line), api.OK)
		}
		line := make([]int, 64)
		for x := range line {
			line[x] = (x*x + x/3) % (n.Shafts + 3)
		}
		wantDraw(t, n, line, drawnOf(n, line), api.OK)
		wantDraw(t, n, line[5:6], drawnOf(n, line[5:6]), api.OK)
	}
	for h := range 1001 {
		for _, n := range []api.Net{eight(), net(40, 8, 7, 0), net(40, 40, 20, 0, 39), net(39, 13, 12, 5), net(1, 1, 0)} {
			wantDraw(t, n, []int{h, h, h}, drawnOf(n, []int{h, h, h}), api.OK)
		}
	}
}

// wrongLines returns lists of which none is a line.
func wrongLines() [][]int {
	l := [][]int{nil, {}, make([]int, 65), make([]int, 66), make([]int, 400), make([]int, 100000), slices.Repeat([]int{-1}, 65), slices.Repeat([]int{1001}, 65)}
	for _, h := range []int{-1, -2, -1000, 1001, 1002, 2000, 1 << 32, 1<<32 + 1, math.MinInt, math.MaxInt} {
		l = append(l, []int{h}, []int{0, h}, []int{h, 1000}, []int{1, h, 2}, append(make([]int, 63), h), append([]int{h}, make([]int, 63)...))
	}
	return l
}

// P16.2: lines that are none, and the greatest ones that are.
func TestDrawOfWrongLines(t *testing.T) {
	for _, n := range []api.Net{eight(), net(1, 1, 0), net(40, 40, bases(64, 40)[2]...), net(40, 1, 0)} {
		for _, line := range wrongLines() {
			wantDraw(t, n, line, nil, api.ErrBad)
		}
		for _, line := range [][]int{make([]int, 64), slices.Repeat([]int{1000}, 64), {0}, {1000}} {
			wantDraw(t, n, line, drawnOf(n, line), api.OK)
		}
	}
}

// P16.2: the lines of some points, by hand.
func TestLine(t *testing.T) {
	for _, c := range []struct {
		points []api.Point
		want   []int
	}{
		{path(0, 0), []int{0}},
		{path(0, 7), []int{7}},
		{path(0, 1000), []int{1000}},
		{path(0, 3, 1, 5), []int{3, 5}},
		{path(0, 1000, 1, 0, 2, 1000), []int{1000, 0, 1000}},
		{path(0, 5, 3, 5), []int{5, 5, 5, 5}},
		{path(0, 0, 2, 1), []int{0, 1, 1}}, // a half up, rising
		{path(0, 1, 2, 0), []int{1, 1, 0}}, // and falling
		{path(0, 0, 2, 3), []int{0, 2, 3}},
		{path(0, 3, 2, 0), []int{3, 2, 0}},
		{path(0, 2, 4, 0), []int{2, 2, 1, 1, 0}},
		{path(0, 0, 3, 1), []int{0, 0, 1, 1}},
		{path(0, 1, 3, 0), []int{1, 1, 0, 0}},
		{path(0, 0, 6, 1), []int{0, 0, 0, 1, 1, 1, 1}},
		{path(0, 1, 6, 0), []int{1, 1, 1, 1, 0, 0, 0}},
		{path(0, 999, 2, 1000), []int{999, 1000, 1000}},
		{path(0, 1000, 2, 999), []int{1000, 1000, 999}},
		{path(0, 1000, 4, 997), []int{1000, 999, 999, 998, 997}},
		{path(0, 0, 4, 2, 8, 0), []int{0, 1, 1, 2, 2, 2, 1, 1, 0}},
		{path(0, 0, 3, 3, 6, 0), []int{0, 1, 2, 3, 2, 1, 0}},
		{path(0, 10, 1, 10, 3, 5, 4, 4), []int{10, 10, 8, 5, 4}},
	} {
		wantLine(t, c.points, c.want)
	}
	whole := make([]int, 64)
	for x := range whole {
		whole[x] = 2 * x
	}
	wantLine(t, path(0, 0, 63, 126), whole)
	slices.Reverse(whole)
	wantLine(t, path(0, 126, 63, 0), whole)
}

// isLineOf tells whether heights are the line of some points: whether no height
// is more than a half below the straight line, nor a half or more above it.
func isLineOf(points []api.Point, line []int) bool {
	last := points[len(points)-1]
	if len(line) != last.X+1 || line[last.X] != last.Y {
		return false
	}
	for i, to := range points[1:] {
		from := points[i]
		wide := to.X - from.X
		for x := from.X; x <= to.X; x++ {
			above := line[x]*wide - from.Y*wide - (to.Y-from.Y)*(x-from.X)
			if 2*above > wide || 2*above <= -wide {
				return false
			}
		}
	}
	return true
}

// wantLineOf checks the line of some points, by the definition.
func wantLineOf(t *testing.T, points []api.Point) {
	t.Helper()
	if l, e := network.Line(points); e != api.OK || !isLineOf(points, l) {
		t.Fatalf("Line of %v: %v, %d", points, l, e)
	}
}

// allPaths returns all points with X up to another one and Y below one.
func allPaths(most, below int) [][]api.Point {
	var l [][]api.Point
	for y := range below {
		l = append(l, path(0, y))
	}
	for x := 1; x <= most; x++ {
		for _, p := range l {
			for y := range below {
				l = append(l, append(slices.Clone(p), api.Point{X: x, Y: y}))
			}
		}
	}
	return l
}

// P16.2: all points with few ends and low heights.
func TestLineOfAll(t *testing.T) {
	for _, points := range slices.Concat(allPaths(5, 4), allPaths(3, 9), allPaths(7, 2)) {
		wantLineOf(t, points)
	}
}

// P16.2: straight lines of all lengths, and points at all ends.
func TestLineOfLong(t *testing.T) {
	heights := []int{0, 1, 2, 3, 7, 31, 32, 63, 64, 499, 500, 501, 997, 998, 999, 1000}
	for wide := 1; wide <= 63; wide++ {
		for _, a := range heights {
			for _, b := range heights {
				wantLineOf(t, path(0, a, wide, b))
				if wide < 63 {
					wantLineOf(t, path(0, b, wide, a, 63, b))
				}
			}
		}
	}
	var all []api.Point
	for x := range 64 {
		all = append(all, api.Point{X: x, Y: (x*x*x + 5) % 1001})
	}
	for n := range all {
		wantLineOf(t, all[:n+1])
		wantLineOf(t, append([]api.Point{{X: 0, Y: 3}}, all[max(n, 1):]...))
		wantLineOf(t, append(slices.Clone(all[:max(n, 1)]), all[63]))
	}
}

// isPath tells whether points are such that have a line, by the definition.
func isPath(points []api.Point) bool {
	before := -1
	for i, p := range points {
		if i == 0 && p.X != 0 || p.X <= before || p.X > 63 || p.Y < 0 || p.Y > 1000 {
			return false
		}
		before = p.X
	}
	return before >= 0
}

// P16.2: points that have no line, and the outermost ones that have one.
func TestLineOfWrongPoints(t *testing.T) {
	wantNoLine(t, nil)
	wantNoLine(t, []api.Point{})
	for _, points := range [][]api.Point{
		path(1, 0), path(-1, 0), path(0, -1), path(0, 1001), path(0, 0, 0, 0), path(0, 0, 0, 1), path(0, 0, 64, 0), path(0, 0, 63, 0, 64, 0),
		path(0, 0, 2, 0, 1, 0), path(0, 0, 1, 0, 1, 0), path(0, 0, 1, -1), path(0, 0, 1, 1001), path(1, 0, 0, 0), path(0, 0, -1, 0), path(0, 0, 5, 0, 4, 0, 6, 0),
	} {
		wantNoLine(t, points)
	}
	numbers := []int{math.MinInt, -1000, -1, 0, 1, 2, 62, 63, 64, 65, 999, 1000, 1001, 1 << 32, math.MaxInt}
	counts := map[bool]int{}
	look := func(points []api.Point) {
		counts[isPath(points)]++
		if isPath(points) {
			wantLineOf(t, points)
		} else {
			wantNoLine(t, points)
		}
	}
	for _, a := range numbers {
		for _, b := range numbers {
			look(path(a, b))
			for _, c := range numbers {
				look(path(0, a, b, c))
				look(path(a, 0, b, c))
				for _, d := range numbers {
					look(path(0, 5, a, b, c, d))
				}
			}
		}
	}
	if counts[true] < 200 || counts[false] < 10000 {
		t.Errorf("too few of a kind: %v", counts)
	}
}

// P16.2: a wrong point at each place of the most points, and more than the most.
func TestLineOfManyPoints(t *testing.T) {
	var all []api.Point
	for x := range 70 {
		all = append(all, api.Point{X: x, Y: x})
	}
	for n := 65; n <= 70; n++ {
		wantNoLine(t, all[:n])
	}
	wantNoLine(t, make([]api.Point, 100000))
	for at := range 64 {
		for _, p := range path(at, -1, at, 1001, at-1, 0, at+1, 0, 64, 0, -1, 0) {
			points := slices.Clone(all[:64])
			points[at] = p
			wantNoLine(t, points)
		}
	}
}
