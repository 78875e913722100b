package network_test

import (
	"math"
	"slices"
	"testing"

	"raddle/api"
	"raddle/network"
)

// wrong returns lists with the errors that thread.Check returns for them.
func wrong() map[api.Errno][][]int {
	return map[api.Errno][][]int{
		api.ErrMany: {make([]int, 401), make([]int, 500), slices.Repeat([]int{-1}, 401), slices.Repeat([]int{400}, 1000)},
		api.ErrBad:  {{-1}, {400}, {0, 400}, {-1, 0}, {0, 1, math.MinInt}, {math.MaxInt, 0, 1}, slices.Repeat([]int{400}, 400), append(make([]int, 399), -1)},
	}
}

// threadingsOfAllKinds returns threadings, and lists that are none.
func threadingsOfAllKinds() [][]int {
	l := [][]int{nil, {}, {0}, {1}, {7}, {39}, {40}, {0, 1, 2, 3}, {399}, make([]int, 64), make([]int, 400)}
	for _, e := range []api.Errno{api.ErrMany, api.ErrBad} {
		l = append(l, wrong()[e]...)
	}
	return l
}

// linesOfAllKinds returns lines, and lists that are none.
func linesOfAllKinds() [][]int {
	return append(wrongLines(), []int{0}, []int{1000}, []int{5, 5, 5, 5}, []int{0, 1, 2, 3, 4, 5, 6, 7}, make([]int, 64), slices.Repeat([]int{1000}, 64))
}

// endsOfAllKinds has numbers of ends, of a cloth and beyond.
var endsOfAllKinds = []int{0, 1, 62, 63, -1, 64, 400, math.MinInt, math.MaxInt}

// invalidNets returns networks that are not valid, each for one reason or more.
func invalidNets() []api.Net {
	l := []api.Net{
		{}, {Shafts: 8, N: 4}, {Shafts: 8, N: 4, Base: []int{}}, {Shafts: 8, Base: []int{0}}, {N: 4, Base: []int{0}}, {Base: []int{0}},
		net(0, 0, 0), net(1, 0, 0), net(0, 1, 0), net(-4, -2, 0), net(-4, 2, 0), net(4, -2, 0), net(4, 8, 0), net(4, 5, 0), net(8, 3, 0), net(8, 5, 0), net(8, 6, 0), net(39, 2, 0), net(40, 39, 0), net(40, 3, 0),
		net(41, 1, 0), net(41, 41, 0), net(42, 2, 0), net(80, 40, 0), net(80, 8, 7), net(400, 4, 0), net(math.MaxInt, 1, 0), net(math.MinInt, 1, 0), net(math.MinInt, -1, 0), net(math.MaxInt, math.MaxInt, 0), net(40, math.MinInt, 0),
		net(8, 4, make([]int, 65)...), net(8, 4, make([]int, 400)...), net(1, 1, make([]int, 65)...), net(8, 4, slices.Repeat([]int{4}, 65)...),
	}
	for _, v := range []int{-1, -4, 4, 5, 7, 8, 40, 1 << 32, math.MinInt, math.MaxInt} {
		l = append(l, net(8, 4, v), net(8, 4, 0, v), net(8, 4, v, 3), net(8, 4, 1, v, 2), net(8, 4, append(make([]int, 63), v)...), net(8, 4, append(make([]int, 64), v)...), net(9, 4, v), net(48, 4, v))
	}
	return append(l, net(1, 1, 1), net(1, 1, -1), net(40, 40, 40), net(40, 40, 0, 39, 40))
}

// R1: the error of a network comes first, and there is no other result with it.
func TestInvalidNetworks(t *testing.T) {
	for _, n := range invalidNets() {
		wantCheck(t, n, api.ErrBad)
		wantPlain(t, n, false, api.ErrBad)
		for _, x := range endsOfAllKinds {
			wantAllowed(t, n, x, nil, api.ErrBad)
		}
		for _, threading := range threadingsOfAllKinds() {
			wantOn(t, n, threading, false, api.ErrBad)
		}
		for _, line := range linesOfAllKinds() {
			wantDraw(t, n, line, nil, api.ErrBad)
		}
	}
}

// R1: the error of a threading comes before that of a number of shafts.
func TestOrderOfErrorsOfTelescope(t *testing.T) {
	for want, l := range wrong() {
		for _, threading := range l {
			for _, m := range append([]int{1, 8, 40}, notTelescoped...) {
				wantTelescope(t, threading, m, nil, want)
			}
		}
	}
}

// R1: the error of too many elements comes before that of one that is no shaft,
// and a shaft that the network does not have is no error.
func TestOrderOfErrorsOfOn(t *testing.T) {
	wantOn(t, eight(), slices.Repeat([]int{-1}, 401), false, api.ErrMany)
	wantOn(t, eight(), slices.Repeat([]int{-1}, 400), false, api.ErrBad)
	wantOn(t, eight(), slices.Repeat([]int{399}, 400), false, api.OK)
	wantOn(t, eight(), []int{1, -1}, false, api.ErrBad)
	wantOn(t, eight(), []int{9, 400}, false, api.ErrBad)
}

// spare returns a copy of a list whose memory goes on behind it.
func spare[T any](l []T, v T) []T {
	return append(slices.Clone(l), slices.Repeat([]T{v}, 70)...)[:len(l)]
}

// memory returns a copy of all memory of a list.
func memory[T any](l []T) []T {
	return slices.Clone(l[:cap(l)])
}

// R2: networks, threadings and lines stay as they are, with the memory behind
// them.
func TestListsStay(t *testing.T) {
	for _, n := range slices.Concat(smallNets(4, 2), greatNets()[:40], invalidNets()) {
		for _, list := range append(threadingsOfAllKinds(), linesOfAllKinds()...) {
			if len(list) > 1000 {
				continue
			}
			n, list := n, spare(list, 5)
			n.Base = spare(n.Base, -7)
			wasBase, was := memory(n.Base), memory(list)
			network.Check(n)
			network.Plain(n)
			network.Allowed(n, 3)
			network.On(n, list)
			network.Draw(n, list)
			network.Telescope(list, n.N)
			if !slices.Equal(memory(n.Base), wasBase) || !slices.Equal(memory(list), was) {
				t.Fatalf("an argument was changed, of %v and %v", n, list)
			}
		}
	}
}

// pathsOfAllKinds returns points that have a line, and ones that have none.
func pathsOfAllKinds() [][]api.Point {
	return append(allPaths(3, 3), nil, []api.Point{}, path(1, 0), path(0, 0, 64, 0), path(0, 0, 63, 1000), path(0, 1001), path(0, 4, 2, 5, 2, 6), make([]api.Point, 64))
}

// R2: points stay as they are, with the memory behind them.
func TestPointsStay(t *testing.T) {
	for _, p := range pathsOfAllKinds() {
		points := spare(p, api.Point{X: -7, Y: -9})
		was := memory(points)
		network.Line(points)
		if !slices.Equal(memory(points), was) {
			t.Fatalf("points were changed, of %v", p)
		}
	}
}

// spoil changes all memory of a list.
func spoil(l []int) {
	l = l[:cap(l)]
	for i := range l {
		l[i] = -7
	}
}

// R2: results can be changed without effect on arguments, other results or later
// calls.
func TestResultsAreNewMemory(t *testing.T) {
	for i, n := range append(smallNets(4, 3), greatNets()...) {
		n.Base = spare(n.Base, 3)
		line := spare(onNet(n, 64, uint32(i)), 4)
		wasBase, was := memory(n.Base), memory(line)
		first, _ := network.Draw(n, line)
		again, _ := network.Draw(n, line)
		telescoped, _ := network.Telescope(line, 40)
		allowed, _ := network.Allowed(n, 1)
		if !slices.Equal(first, line) || !slices.Equal(telescoped, line) {
			t.Fatalf("Draw or Telescope of %v and %v: %v and %v", n, line, first, telescoped)
		}
		for _, l := range [][]int{first, telescoped, allowed} {
			spoil(l)
		}
		if !slices.Equal(again, line) || !slices.Equal(memory(n.Base), wasBase) || !slices.Equal(memory(line), was) {
			t.Fatalf("a result shares memory, of %v and %v", n, line)
		}
		wantDraw(t, n, line, line, api.OK)
		wantTelescope(t, line, 40, line, api.OK)
		wantAllowed(t, n, 1, allowedOf(n, 1), api.OK)
	}
}

// R2: the same for lines of points.
func TestLinesAreNewMemory(t *testing.T) {
	for _, p := range pathsOfAllKinds() {
		if !isPath(p) {
			continue
		}
		points := spare(p, api.Point{X: 70, Y: 3})
		was := memory(points)
		line, _ := network.Line(points)
		again, _ := network.Line(points)
		spoil(line)
		if !isLineOf(p, again) || !slices.Equal(memory(points), was) {
			t.Fatalf("a result shares memory, of %v", p)
		}
		wantLineOf(t, p)
	}
}

// R2: a call that returns an error has no effect on the ones after it, and the
// same call has the same result.
func TestNothingIsKept(t *testing.T) {
	TestExamples(t)
	for _, n := range invalidNets() {
		wantDraw(t, n, []int{5, 5, 5, 5}, nil, api.ErrBad)
		wantDraw(t, eight(), []int{5, -1}, nil, api.ErrBad)
		wantAllowed(t, eight(), 64, nil, api.ErrArg)
		wantOn(t, eight(), []int{-1}, false, api.ErrBad)
		wantTelescope(t, []int{4}, 0, nil, api.ErrArg)
		wantNoLine(t, path(0, 0, 4, -1))
		TestExamples(t)
	}
}

// R3: nil and empty lists are alike.
func TestNilAndEmpty(t *testing.T) {
	for _, empty := range [][]int{nil, {}, make([]int, 0, 4), []int{3, 3}[:0]} {
		wantCheck(t, net(8, 4, empty...), api.ErrBad)
		wantCheck(t, api.Net{Shafts: 8, N: 4, Base: empty}, api.ErrBad)
		wantOn(t, eight(), empty, true, api.OK)
		wantDraw(t, eight(), empty, nil, api.ErrBad)
		for m := 1; m <= 40; m++ {
			wantTelescope(t, empty, m, nil, api.OK)
		}
		wantTelescope(t, empty, 0, nil, api.ErrArg)
	}
	for _, empty := range [][]api.Point{nil, {}, make([]api.Point, 0, 4), path(0, 0)[:0]} {
		wantNoLine(t, empty)
	}
}

// far has numbers of which sums and products are greater than a number can be.
var far = []int{math.MinInt, math.MinInt + 1, -1 << 32, -65, -40, -2, -1, 0, 1, 2, 4, 8, 39, 40, 41, 63, 64, 65, 399, 400, 1000, 1001, 1 << 31, 1 << 32, 1<<32 + 2, math.MaxInt - 1, math.MaxInt}

// R7: no call panics, and all of them end, whatever their arguments are.
func TestNoPanic(t *testing.T) {
	for _, a := range far {
		for _, b := range far {
			for _, length := range []int{0, 1, 2, 64, 65, 401} {
				l := slices.Repeat([]int{a, b}, length)[:length]
				for _, n := range []api.Net{net(a, b, l...), net(b, a, 0), net(8, 4, l...), eight(), net(40, 1, 0)} {
					network.Check(n)
					network.Allowed(n, a)
					network.On(n, l)
					network.Draw(n, l)
					network.Plain(n)
				}
				network.Telescope(l, a)
				network.Telescope([]int{a, b}, length)
				network.Line(slices.Repeat(path(a, b), length))
				network.Line(append(slices.Repeat(path(0, a), length), path(b, a, a, b)...))
				network.Line(path(0, 0, a, b, b, a, length, length))
			}
		}
	}
}
