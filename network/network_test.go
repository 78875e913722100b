package network_test

import (
	"math"
	"slices"
	"testing"

	"raddle/api"
	"raddle/network"
)

// net returns a network.
func net(shafts, n int, base ...int) api.Net {
	return api.Net{Shafts: shafts, N: n, Base: base}
}

// eight is the network of the examples.
func eight() api.Net { return net(8, 4, 0, 1, 2, 3) }

// allLists returns all lists of so many numbers below another one.
func allLists(length, below int) [][]int {
	l := [][]int{nil}
	for range length {
		var longer [][]int
		for _, list := range l {
			for v := range below {
				longer = append(longer, append(slices.Clone(list), v))
			}
		}
		l = longer
	}
	return l
}

// isMultiple reports whether a number is so many times another one, by adding.
func isMultiple(shafts, n int) bool {
	for k := n; k <= shafts; k += n {
		if k == shafts {
			return true
		}
	}
	return false
}

// smallNets returns all networks of few shafts with short Bases.
func smallNets(most, longest int) []api.Net {
	var l []api.Net
	for shafts := 1; shafts <= most; shafts++ {
		for n := 1; n <= shafts; n++ {
			for length := 1; length <= longest && isMultiple(shafts, n); length++ {
				for _, base := range allLists(length, n) {
					l = append(l, net(shafts, n, base...))
				}
			}
		}
	}
	return l
}

// bases returns Bases of many kinds and of so many elements below n.
func bases(length, n int) [][]int {
	up, down, mixed, two := make([]int, length), make([]int, length), make([]int, length), make([]int, length)
	for i := range length {
		up[i], down[i], mixed[i], two[i] = i%n, (n-1)*(i+1)%n, (i*i+i/3+5)%n, i%2*(n-1)
	}
	return [][]int{make([]int, length), slices.Repeat([]int{n - 1}, length), up, down, mixed, two}
}

// greatNets returns networks of up to MaxShafts shafts, with Bases of up to
// MaxSide elements.
func greatNets() []api.Net {
	var l []api.Net
	for _, shafts := range []int{1, 2, 6, 8, 12, 37, 39, 40} {
		for n := 1; n <= shafts; n++ {
			for _, length := range []int{1, 2, 7, 8, 63, 64} {
				for _, base := range bases(length, n) {
					if isMultiple(shafts, n) {
						l = append(l, net(shafts, n, base...))
					}
				}
			}
		}
	}
	return l
}

// nets returns all small networks, and some great ones.
func nets() []api.Net { return append(smallNets(8, 3), greatNets()...) }

// isAllowed tells whether an end is allowed on a shaft, by the definition.
func isAllowed(n api.Net, x, shaft int) bool {
	return shaft >= 0 && shaft < n.Shafts && shaft%n.N == n.Base[x%len(n.Base)]
}

// allowedOf returns the shafts of an end, by the definition.
func allowedOf(n api.Net, x int) []int {
	var l []int
	for shaft := range 40 {
		if isAllowed(n, x, shaft) {
			l = append(l, shaft)
		}
	}
	return l
}

// distance returns the difference of two numbers in absolute value.
func distance(a, b int) int {
	if a < b {
		return b - a
	}
	return a - b
}

// drawnOf returns the threading of a line, by the definition: from the highest
// shaft down, each one that is not further away than the one above.
func drawnOf(n api.Net, line []int) []int {
	l := make([]int, len(line))
	for x, h := range line {
		l[x] = -5000
		for shaft := 39; shaft >= 0; shaft-- {
			if isAllowed(n, x, shaft) && distance(shaft, h) <= distance(l[x], h) {
				l[x] = shaft
			}
		}
	}
	return l
}

// wantCheck checks the error of a network.
func wantCheck(t *testing.T, n api.Net, want api.Errno) {
	t.Helper()
	if e := network.Check(n); e != want {
		t.Fatalf("Check of %v: %d, want %d", n, e, want)
	}
}

// wantAllowed checks the shafts of an end.
func wantAllowed(t *testing.T, n api.Net, x int, want []int, wantError api.Errno) {
	t.Helper()
	if l, e := network.Allowed(n, x); !slices.Equal(l, want) || e != wantError {
		t.Fatalf("Allowed of %v and %d: %v, %d, want %v, %d", n, x, l, e, want, wantError)
	}
}

// wantOn checks whether a threading is on a network.
func wantOn(t *testing.T, n api.Net, threading []int, want bool, wantError api.Errno) {
	t.Helper()
	if is, e := network.On(n, threading); is != want || e != wantError {
		t.Fatalf("On of %v and %v: %v, %d, want %v, %d", n, threading, is, e, want, wantError)
	}
}

// wantDraw checks the threading of a line.
func wantDraw(t *testing.T, n api.Net, line, want []int, wantError api.Errno) {
	t.Helper()
	if l, e := network.Draw(n, line); !slices.Equal(l, want) || e != wantError {
		t.Fatalf("Draw of %v and %v: %v, %d, want %v, %d", n, line, l, e, want, wantError)
	}
}

// wantTelescope checks a threading telescoped.
func wantTelescope(t *testing.T, threading []int, m int, want []int, wantError api.Errno) {
	t.Helper()
	if l, e := network.Telescope(threading, m); !slices.Equal(l, want) || e != wantError {
		t.Fatalf("Telescope of %v and %d: %v, %d, want %v, %d", threading, m, l, e, want, wantError)
	}
}

// wantPlain checks whether a network makes plain weave.
func wantPlain(t *testing.T, n api.Net, want bool, wantError api.Errno) {
	t.Helper()
	if is, e := network.Plain(n); is != want || e != wantError {
		t.Fatalf("Plain of %v: %v, %d, want %v, %d", n, is, e, want, wantError)
	}
}

// The examples of the chapter.
func TestExamples(t *testing.T) {
	wantCheck(t, eight(), api.OK)
	wantDraw(t, eight(), []int{5, 5, 5, 5}, []int{4, 5, 6, 3}, api.OK)
	wantAllowed(t, eight(), 2, []int{2, 6}, api.OK)
	wantLine(t, []api.Point{{X: 0, Y: 0}, {X: 4, Y: 2}}, []int{0, 1, 1, 2, 2})
	wantPlain(t, eight(), true, api.OK)
}

// badIf returns the error of something that is not valid if it is not.
func badIf(isBad bool) api.Errno {
	if isBad {
		return api.ErrBad
	}
	return api.OK
}

// P16.1: Shafts and N of all kinds.
func TestCheckNumbers(t *testing.T) {
	numbers := []int{math.MinInt, math.MinInt + 1, -1 << 32, -80, -40, 63, 64, 80, 400, 1 << 31, 1 << 32, 1<<32 + 1, math.MaxInt - 1, math.MaxInt}
	for v := -3; v <= 45; v++ {
		numbers = append(numbers, v)
	}
	valid := 0
	for _, shafts := range numbers {
		for _, n := range numbers {
			isValid := n >= 1 && shafts <= 40 && isMultiple(shafts, n)
			if isValid {
				valid++
			}
			wantCheck(t, net(shafts, n, 0), badIf(!isValid))
			wantCheck(t, net(shafts, n, make([]int, 64)...), badIf(!isValid))
		}
	}
	if valid != 158 { // the numbers up to 40 have as many divisors
		t.Errorf("%d pairs are valid", valid)
	}
}

// P16.1: Bases of all numbers of elements, with each element.
func TestCheckBases(t *testing.T) {
	for _, n := range []api.Net{net(1, 1), net(2, 1), net(6, 3), net(8, 4), net(40, 40), net(40, 1), net(40, 8)} {
		for length := range 70 {
			n.Base = make([]int, length)
			isLong := length > 64 || length == 0
			wantCheck(t, n, badIf(isLong))
			for _, at := range []int{0, length / 2, length - 1} {
				for _, v := range []int{math.MinInt, -40, -2, -1, 0, 1, 2, 3, 4, 7, 8, 39, 40, 41, math.MaxInt} {
					if length == 0 {
						continue
					}
					n.Base[at] = v
					wantCheck(t, n, badIf(isLong || v < 0 || v >= n.N))
					n.Base[at] = 0
				}
			}
		}
	}
	wantCheck(t, net(8, 4, make([]int, 400)...), api.ErrBad)
	wantCheck(t, net(8, 4, make([]int, 100000)...), api.ErrBad)
	for _, n := range nets() {
		wantCheck(t, n, api.OK)
	}
}

// P16.1: Allowed of some networks, by hand.
func TestAllowed(t *testing.T) {
	wantAllowed(t, net(1, 1, 0), 0, []int{0}, api.OK)
	wantAllowed(t, net(1, 1, 0), 63, []int{0}, api.OK)
	wantAllowed(t, net(3, 1, 0), 5, []int{0, 1, 2}, api.OK)
	wantAllowed(t, net(3, 3, 2, 0), 0, []int{2}, api.OK)
	wantAllowed(t, net(3, 3, 2, 0), 1, []int{0}, api.OK)
	wantAllowed(t, net(3, 3, 2, 0), 2, []int{2}, api.OK)
	wantAllowed(t, net(3, 3, 2, 0), 63, []int{0}, api.OK)
	wantAllowed(t, net(12, 4, 3, 1, 0), 0, []int{3, 7, 11}, api.OK)
	wantAllowed(t, net(12, 4, 3, 1, 0), 62, []int{0, 4, 8}, api.OK)
	wantAllowed(t, net(40, 8, 7), 63, []int{7, 15, 23, 31, 39}, api.OK)
	wantAllowed(t, net(40, 20, 0), 1, []int{0, 20}, api.OK)
	wantAllowed(t, net(40, 40, 0, 39), 1, []int{39}, api.OK)
}

// P16.1: the ends up to MaxSide - 1, and those beyond.
func TestAllowedOfAll(t *testing.T) {
	for _, n := range nets() {
		for x := range 64 {
			wantAllowed(t, n, x, allowedOf(n, x), api.OK)
		}
		for _, x := range []int{math.MinInt, -65, -64, -2, -1, 64, 65, 127, 128, 399, 400, 1 << 32, math.MaxInt} {
			wantAllowed(t, n, x, nil, api.ErrArg)
		}
	}
}

// P16.1: On of some threadings, by hand.
func TestOn(t *testing.T) {
	on, off := true, false
	for _, c := range []struct {
		n         api.Net
		threading []int
		want      bool
	}{
		{eight(), []int{0, 1, 2, 3, 4, 5, 6, 7}, on},
		{eight(), []int{4, 1, 6, 7, 0}, on},
		{eight(), nil, on},
		{eight(), []int{1}, off},
		{eight(), []int{0, 1, 2, 3, 4, 5, 6, 3, 1}, off},
		{eight(), []int{8}, off}, // the rest is right, but the loom has no such shaft
		{eight(), []int{0, 1, 2, 11}, off},
		{eight(), []int{396}, off},
		{net(1, 1, 0), []int{0, 0, 0}, on},
		{net(1, 1, 0), []int{0, 1, 0}, off},
		{net(3, 1, 0, 0), []int{2, 1, 0, 0, 2}, on},
		{net(3, 1, 0, 0), []int{2, 1, 3}, off},
		{net(3, 3, 2), []int{2, 2}, on},
		{net(3, 3, 2), []int{2, 5}, off},
		{net(40, 40, 39), slices.Repeat([]int{39}, 400), on},
		{net(40, 40, 39), append(slices.Repeat([]int{39}, 399), 38), off},
	} {
		wantOn(t, c.n, c.threading, c.want, api.OK)
	}
}

// P16.1: all short threadings on all small networks.
func TestOnOfAll(t *testing.T) {
	for _, n := range smallNets(6, 3) {
		for length := range 4 {
			for _, threading := range allLists(length, n.Shafts+n.N+1) {
				is := true
				for x, shaft := range threading {
					is = is && isAllowed(n, x, shaft)
				}
				wantOn(t, n, threading, is, api.OK)
			}
		}
	}
}

// onNet returns a threading of so many ends on a network, with shafts that are
// chosen by a number.
func onNet(n api.Net, length int, choice uint32) []int {
	l := make([]int, length)
	for x := range l {
		choice = choice*1664525 + 1013904223
		shafts := allowedOf(n, x)
		l[x] = shafts[int(choice>>8)%len(shafts)]
	}
	return l
}

// P16.1: threadings of up to MaxList ends, which are more than a cloth has, and
// the same with one end on another shaft.
func TestOnOfLongThreadings(t *testing.T) {
	for i, n := range greatNets() {
		for _, length := range []int{1, 64, 65, 399, 400} {
			threading := onNet(n, length, uint32(i))
			wantOn(t, n, threading, true, api.OK)
			for _, at := range []int{0, length / 3, length - 1} {
				old := threading[at]
				for _, shaft := range []int{0, 1, old + 1, old + n.N, old + n.Shafts, n.Shafts, 399} {
					if shaft >= 400 {
						continue
					}
					threading[at] = shaft
					wantOn(t, n, threading, isAllowed(n, at, shaft), api.OK)
				}
				threading[at] = old
			}
		}
	}
}

// P16.1: threadings that are none.
func TestOnOfWrongThreadings(t *testing.T) {
	for _, n := range []api.Net{net(1, 1, 0), eight(), net(40, 40, 39, 0), net(40, 1, 0)} {
		for want, l := range wrong() {
			for _, threading := range l {
				wantOn(t, n, threading, false, want)
			}
		}
	}
}

// P16.3: threadings telescoped, by hand.
func TestTelescope(t *testing.T) {
	wantTelescope(t, []int{0, 1, 2, 3, 4, 5, 6, 7, 8}, 4, []int{0, 1, 2, 3, 0, 1, 2, 3, 0}, api.OK)
	wantTelescope(t, []int{4, 5, 6, 3}, 4, []int{0, 1, 2, 3}, api.OK)
	wantTelescope(t, []int{4, 5, 6, 3}, 5, []int{4, 0, 1, 3}, api.OK)
	wantTelescope(t, []int{4, 5, 6, 3}, 1, []int{0, 0, 0, 0}, api.OK)
	wantTelescope(t, []int{39, 40, 41, 399, 0}, 40, []int{39, 0, 1, 39, 0}, api.OK)
	wantTelescope(t, []int{39, 40, 41, 399, 0}, 39, []int{0, 1, 2, 9, 0}, api.OK)
	wantTelescope(t, nil, 3, nil, api.OK)
}

// telescopedOf returns a threading telescoped, by taking off m again and again.
func telescopedOf(threading []int, m int) []int {
	l := slices.Clone(threading)
	for x := range l {
		for l[x] >= m {
			l[x] -= m
		}
	}
	return l
}

// P16.3: threadings of all shafts and of up to MaxList ends to all numbers.
func TestTelescopeOfAll(t *testing.T) {
	l := append(allLists(3, 9), nil, []int{0}, []int{399}, make([]int, 400), slices.Repeat([]int{399}, 400))
	up, mixed := make([]int, 400), make([]int, 400)
	for x := range 400 {
		up[x], mixed[x] = x, (x*x+7)%400
	}
	for _, threading := range append(l, up, mixed) {
		for m := 1; m <= 40; m++ {
			wantTelescope(t, threading, m, telescopedOf(threading, m), api.OK)
		}
		for _, m := range notTelescoped {
			wantTelescope(t, threading, m, nil, api.ErrArg)
		}
	}
}

// notTelescoped has numbers to which no threading is telescoped.
var notTelescoped = []int{math.MinInt, -41, -40, -2, -1, 0, 41, 42, 64, 400, 1 << 32, 1<<32 + 1, math.MaxInt}

// P16.3: threadings that are none.
func TestTelescopeOfWrongThreadings(t *testing.T) {
	for want, l := range wrong() {
		for _, threading := range l {
			for _, m := range []int{1, 2, 39, 40} {
				wantTelescope(t, threading, m, nil, want)
			}
		}
	}
}

// P16.3: networks that make plain weave, and such that do not, by hand.
func TestPlain(t *testing.T) {
	for _, c := range []struct {
		n    api.Net
		want bool
	}{
		{net(1, 1, 0), false},
		{net(2, 1, 0), false},
		{net(2, 2, 0), false}, // the only element is that of the next end, too
		{net(2, 2, 1), false},
		{net(2, 2, 0, 1), true},
		{net(2, 2, 1, 0), true},
		{net(2, 2, 0, 1, 0), false}, // repeated, it has 0 and 0 next to each other
		{net(2, 2, 1, 0, 1), false},
		{net(4, 2, 0, 1, 0, 1), true},
		{net(4, 4, 0, 3, 2, 1), true},
		{net(4, 4, 0, 2), false},
		{net(4, 4, 1, 3), false},
		{net(4, 4, 0, 1, 1, 2), false},
		{net(4, 4, 0, 1, 2, 2), false},
		{net(4, 4, 0, 0, 1, 1), false},
		{net(8, 4, 0, 1, 2, 3, 2, 1), true},
		{net(3, 3, 0, 1), false}, // N is odd
		{net(6, 3, 0, 1), false},
		{net(5, 5, 0, 1, 2, 3), false},
		{net(6, 3, 0, 1, 2), false},
		{net(10, 5, 0, 1, 4, 3), false},
		{net(40, 40, 0, 39), true},
		{net(40, 40, 39, 38, 37, 36), true},
		{net(39, 39, 0, 1), false},
		{net(40, 2, slices.Repeat([]int{0, 1}, 32)...), true},
		{net(40, 2, slices.Repeat([]int{1, 0}, 32)[:63]...), false},
		{net(40, 2, append(slices.Repeat([]int{1, 0}, 31), 1, 1)...), false},
		{net(40, 2, append([]int{0, 0}, slices.Repeat([]int{1, 0}, 31)...)...), false},
	} {
		wantPlain(t, c.n, c.want, api.OK)
	}
}

// P16.3: all networks, with the elements of two Bases one after the other.
func TestPlainOfAll(t *testing.T) {
	counts := map[bool]int{}
	for _, n := range append(nets(), smallNets(4, 6)...) {
		twice := slices.Concat(n.Base, n.Base)
		want := slices.Contains([]int{2, 4, 6, 8, 10, 12, 20, 40}, n.N)
		for x, v := range twice[1:] {
			want = want && (v+twice[x])%2 == 1
		}
		wantPlain(t, n, want, api.OK)
		counts[want]++
	}
	if counts[true] < 100 || counts[false] < 1000 {
		t.Errorf("too few of a kind: %v", counts)
	}
}
