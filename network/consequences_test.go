package network_test

import (
	"slices"
	"testing"

	"raddle/api"
	"raddle/draft"
	"raddle/network"
)

// drawn returns the threading of a line that has one.
func drawn(t *testing.T, n api.Net, line []int) []int {
	t.Helper()
	l, e := network.Draw(n, line)
	if e != api.OK {
		t.Fatalf("Draw of %v and %v: %d", n, line, e)
	}
	return l
}

// linesFor returns lines of many kinds, with heights up to some above the shafts
// of a network.
func linesFor(n api.Net) [][]int {
	l := allLists(1, n.Shafts+n.N+2)
	for _, length := range []int{2, 5, 63, 64} {
		for _, base := range bases(length, n.Shafts+n.N+2) {
			l = append(l, base)
		}
		l = append(l, slices.Repeat([]int{1000}, length))
	}
	return l
}

// allThreadings returns all threadings of so many ends on a network.
func allThreadings(n api.Net, length int) [][]int {
	l := [][]int{nil}
	for x := range length {
		var longer [][]int
		for _, threading := range l {
			for _, shaft := range allowedOf(n, x) {
				longer = append(longer, append(slices.Clone(threading), shaft))
			}
		}
		l = longer
	}
	return l
}

// P16.4: the threading of a line stays on the network, and no allowed shaft is
// nearer to the height.
func TestDrawStaysOnTheNetwork(t *testing.T) {
	for _, n := range nets() {
		for _, line := range linesFor(n) {
			threading := drawn(t, n, line)
			wantOn(t, n, threading, true, api.OK)
			for x, h := range line {
				shafts, _ := network.Allowed(n, x)
				for _, shaft := range shafts {
					if distance(shaft, h) < distance(threading[x], h) {
						t.Fatalf("Draw of %v and %v: %v, but %d is nearer", n, line, threading, shaft)
					}
				}
			}
		}
	}
}

// P16.4: a line whose heights are shafts of a threading on the network has this
// threading.
func TestThreadingsAreTheirLines(t *testing.T) {
	for _, n := range smallNets(6, 3) {
		for length := 1; length <= 4; length++ {
			for _, threading := range allThreadings(n, length) {
				wantDraw(t, n, threading, threading, api.OK)
			}
		}
	}
	for i, n := range greatNets() {
		for _, length := range []int{1, 63, 64} {
			threading := onNet(n, length, uint32(i))
			wantDraw(t, n, threading, threading, api.OK)
		}
	}
}

// P16.4: the line that is higher by N has the threading that is higher by N, if
// all heights are at least N, and they and the shafts are below Shafts - N.
func TestHigherLines(t *testing.T) {
	moved := 0
	for _, n := range append(nets(), net(12, 3, 2, 0, 1), net(39, 3, 2), net(36, 4, 3, 0, 2)) {
		for low := n.N; low < n.Shafts-n.N; low++ {
			above := n.Shafts - n.N - low
			for _, wide := range []int{1, min(n.N, above), above} {
				line := make([]int, min(2*len(n.Base), 64))
				for x := range line {
					line[x] = low + (x*x+x/3)%wide
				}
				threading := drawn(t, n, line)
				if slices.Max(threading) >= n.Shafts-n.N {
					continue
				}
				moved++
				wantDraw(t, n, higher(line, n.N), higher(threading, n.N), api.OK)
			}
		}
	}
	if moved < 1000 {
		t.Errorf("only %d lines", moved)
	}
}

// higher returns a list that is higher by a number.
func higher(l []int, by int) []int {
	l = slices.Clone(l)
	for x := range l {
		l[x] += by
	}
	return l
}

// P16.4: telescoped to N shafts, each threading on the network is its Base,
// repeated; and a threading that becomes the Base is on the network.
func TestTelescopedToTheBase(t *testing.T) {
	for _, n := range smallNets(6, 3) {
		for length := range 5 {
			for _, threading := range allThreadings(n, length) {
				wantTelescope(t, threading, n.N, slices.Repeat(n.Base, 5)[:length], api.OK)
			}
		}
		for _, threading := range allLists(3, n.Shafts) {
			l, _ := network.Telescope(threading, n.N)
			wantOn(t, n, threading, slices.Equal(l, slices.Repeat(n.Base, 3)[:3]), api.OK)
		}
	}
	for i, n := range greatNets() {
		for _, length := range []int{1, 64, 400} {
			base := slices.Repeat(n.Base, 400)[:length]
			wantTelescope(t, onNet(n, length, uint32(i)), n.N, base, api.OK)
		}
	}
}

// weavesPlain tells whether a threading weaves plain weave if all shafts with even
// numbers are lifted, and all others, in turn.
func weavesPlain(t *testing.T, shafts int, threading []int) bool {
	t.Helper()
	d := api.Draft{Shafts: shafts, Treadles: 2, Thread: threading, Tread: []int{0, 1}, Tie: api.Grid{W: 2, H: shafts}}
	for s := range shafts {
		d.Tie.Bits = append(d.Tie.Bits, s%2 == 0, s%2 == 1)
	}
	g, e := draft.Weave(d)
	if e != api.OK {
		t.Fatalf("Weave of %v: %d", d, e)
	}
	for x := range g.W {
		if g.Bits[x] == g.Bits[g.W+x] || x > 0 && (g.Bits[x] == g.Bits[x-1] || g.Bits[g.W+x] == g.Bits[g.W+x-1]) {
			return false
		}
	}
	return true
}

// P16.4: if a network makes plain weave, each threading on it weaves plain weave.
// If it does not although N is even, none with an end more than its Base does.
func TestPlainNetworksWeavePlain(t *testing.T) {
	for _, n := range smallNets(6, 3) {
		isPlain, _ := network.Plain(n)
		for _, threading := range allThreadings(n, 4) {
			if isPlain && !weavesPlain(t, n.Shafts, threading) {
				t.Fatalf("%v on %v does not weave plain", threading, n)
			}
			if !isPlain && n.N%2 == 0 && weavesPlain(t, n.Shafts, threading[:len(n.Base)+1]) {
				t.Fatalf("%v on %v weaves plain", threading, n)
			}
		}
	}
}

// P16.4: the same for great networks, with threadings of as many ends as a cloth
// has.
func TestPlainGreatNetworksWeavePlain(t *testing.T) {
	counts := map[bool]int{}
	for i, n := range greatNets() {
		isPlain, _ := network.Plain(n)
		if n.N%2 != 0 || len(n.Base) == 64 && !isPlain {
			continue // a cloth has no end more than so long a Base
		}
		counts[isPlain]++
		for _, length := range []int{min(len(n.Base)+1, 64), 64} {
			threading := onNet(n, length, uint32(i))
			if weavesPlain(t, n.Shafts, threading) != isPlain {
				t.Fatalf("%v on %v weaves plain or not", threading, n)
			}
		}
	}
	if counts[true] < 10 || counts[false] < 10 {
		t.Errorf("too few of a kind: %v", counts)
	}
}

// P16.4: the line of some points on all networks, with some of its heights above
// all shafts.
func TestLinesOfPointsAreDrawn(t *testing.T) {
	points := path(0, 0, 20, 39, 31, 12, 63, 1000)
	line, e := network.Line(points)
	if e != api.OK {
		t.Fatal(e)
	}
	for _, n := range nets() {
		threading := drawn(t, n, line)
		wantOn(t, n, threading, true, api.OK)
		wantDraw(t, n, threading, threading, api.OK)
		wantTelescope(t, threading, n.N, slices.Repeat(n.Base, 64)[:64], api.OK)
	}
}
