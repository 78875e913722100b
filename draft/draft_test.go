package draft_test

import (
	"math"
	"math/bits"
	"slices"
	"testing"

	"raddle/api"
	"raddle/draft"
	"raddle/grid"
)

// read returns the grid with a text.
func read(t *testing.T, s string) api.Grid {
	t.Helper()
	g, e := grid.Parse(s)
	if e != api.OK {
		t.Fatalf("Parse(%q): %v", s, e)
	}
	return g
}

// cloth returns a grid that comes without an error.
func cloth(t *testing.T) func(api.Grid, api.Errno) api.Grid {
	return func(g api.Grid, e api.Errno) api.Grid {
		t.Helper()
		if e != api.OK || grid.Check(g) != api.OK {
			t.Fatalf("%v, error %d", g, e)
		}
		return g
	}
}

// must returns a draft that comes without an error.
func must(t *testing.T) func(api.Draft, api.Errno) api.Draft {
	return func(d api.Draft, e api.Errno) api.Draft {
		t.Helper()
		if e != api.OK || draft.Check(d) != api.OK {
			t.Fatalf("%v, error %d", d, e)
		}
		return d
	}
}

// wantDraft fails unless the draft comes without an error.
func wantDraft(t *testing.T, what string, d api.Draft, e api.Errno, want api.Draft) {
	t.Helper()
	if e != api.OK || !draft.Same(d, want) {
		t.Fatalf("%s: %v, %d, want %v", what, d, e, want)
	}
}

// wantError fails unless the error comes without a draft.
func wantError(t *testing.T, what string, d api.Draft, e, want api.Errno) {
	t.Helper()
	if e != want || !draft.Same(d, api.Draft{}) {
		t.Fatalf("%s: %v, %d, want the error %d", what, d, e, want)
	}
}

// wantCells fails unless the grid has these sides and cells.
func wantCells(t *testing.T, what string, g api.Grid, w, h int, at func(x, y int) bool) {
	t.Helper()
	if g.W != w || g.H != h || len(g.Bits) != w*h {
		t.Fatalf("%s: %d by %d with %d cells, want %d by %d", what, g.W, g.H, len(g.Bits), w, h)
	}
	for y := range h {
		for x := range w {
			if up(g, x, y) != at(x, y) {
				t.Fatalf("%s: wrong cell (%d, %d)", what, x, y)
			}
		}
	}
}

// up returns the cell (x, y) of a grid.
func up(g api.Grid, x, y int) bool { return g.Bits[y*g.W+x] }

// count returns the list of 0, 1 and so on.
func count(length int) []int {
	l := make([]int, length)
	for i := range l {
		l[i] = i
	}
	return l
}

// mixed returns a list of numbers below n in no order.
func mixed(n, length int) []int {
	l := make([]int, length)
	seed := uint32(n*1000 + length)
	for i := range l {
		seed = seed*1664525 + 1013904223
		l[i] = int(seed>>8) % n
	}
	return l
}

// pattern returns a grid with no symmetries that a mistake could hide behind.
func pattern(w, h int) api.Grid {
	g := api.Grid{W: w, H: h, Bits: make([]bool, w*h)}
	for i, v := range mixed(1000, w*h) {
		g.Bits[i] = (v+w+3*h)%7 < 3
	}
	return g
}

// shuffled returns the numbers below n, each one once, in no order.
func shuffled(n int) []int {
	l := count(n)
	for i, v := range mixed(1000003, n) {
		k := v % (i + 1)
		l[i], l[k] = l[k], l[i]
	}
	return l
}

// whole returns a draft of these sizes.
func whole(shafts, treadles, ends, picks int) api.Draft {
	return api.Draft{
		Shafts: shafts, Treadles: treadles,
		Thread: mixed(shafts, ends), Tread: mixed(treadles, picks),
		Tie: pattern(treadles, shafts),
	}
}

// samples returns valid drafts, the least and the greatest ones too.
func samples() []api.Draft {
	var l []api.Draft
	for _, n := range [][4]int{
		{1, 1, 1, 1}, {1, 1, 64, 64}, {1, 40, 1, 64}, {40, 1, 64, 1}, {40, 40, 1, 1}, {40, 40, 64, 64},
		{1, 2, 3, 4}, {4, 3, 2, 1}, {2, 1, 4, 3}, {3, 4, 1, 2}, {4, 6, 16, 20}, {8, 5, 30, 7}, {39, 40, 63, 64},
		{40, 39, 64, 63}, {5, 5, 64, 1}, {5, 5, 1, 64}, {8, 8, 8, 8},
	} {
		l = append(l, whole(n[0], n[1], n[2], n[3]))
	}
	gaps := api.Draft{
		Shafts: 5, Treadles: 6, Thread: []int{3, 1, 3}, Tread: []int{5, 5, 2, 0}, Tie: pattern(6, 5),
	}
	ends := api.Draft{
		Shafts: 40, Treadles: 40, Thread: []int{39, 0}, Tread: []int{0, 39, 0}, Tie: pattern(40, 40),
	}
	return append(l, gaps, ends)
}

// small returns all drafts of up to two shafts, treadles, ends and picks.
func small() []api.Draft {
	lists := func(n int) [][]int {
		if n == 1 {
			return [][]int{{0}, {0, 0}}
		}
		return [][]int{{0}, {1}, {0, 0}, {0, 1}, {1, 0}, {1, 1}}
	}
	var l []api.Draft
	for shafts := 1; shafts <= 2; shafts++ {
		for treadles := 1; treadles <= 2; treadles++ {
			for _, thread := range lists(shafts) {
				for _, tread := range lists(treadles) {
					for v := range 1 << (shafts * treadles) {
						tie := api.Grid{W: treadles, H: shafts, Bits: make([]bool, shafts*treadles)}
						for i := range tie.Bits {
							tie.Bits[i] = v>>i&1 == 1
						}
						l = append(l, api.Draft{
							Shafts: shafts, Treadles: treadles,
							Thread: slices.Clone(thread), Tread: slices.Clone(tread), Tie: tie,
						})
					}
				}
			}
		}
	}
	return l
}

// plain is the draft of the example.
func plain(t *testing.T) api.Draft {
	return api.Draft{
		Shafts: 2, Treadles: 2, Thread: []int{0, 1, 0}, Tread: []int{0, 1}, Tie: read(t, ".x\nx.\n"),
	}
}

func TestExample(t *testing.T) {
	if s, e := grid.Text(cloth(t)(draft.Weave(plain(t)))); s != ".x.\nx.x\n" || e != api.OK {
		t.Errorf("Weave: %q, %d", s, e)
	}
	if s, e := grid.Text(cloth(t)(draft.Lift(plain(t)))); s != ".x\nx.\n" || e != api.OK {
		t.Errorf("Lift: %q, %d", s, e)
	}
}

// TestTwill has all parts of other sizes: what is exchanged shows.
func TestTwill(t *testing.T) {
	d := api.Draft{
		Shafts: 3, Treadles: 2, Thread: []int{0, 1, 2, 1}, Tread: []int{1, 0, 1, 1, 0}, Tie: read(t, ".x\nx.\nxx\n"),
	}
	for _, k := range []struct {
		g    api.Grid
		want string
	}{
		{cloth(t)(draft.Weave(d)), "xx.x\nx.x.\nx.x.\nxx.x\nx.x.\n"},
		{cloth(t)(draft.Lift(d)), "xx.\nx.x\nx.x\nxx.\nx.x\n"},
		{cloth(t)(draft.Weave(must(t)(draft.Turn(d)))), ".x..x\nx.xx.\n.x..x\nxxxxx\n"},
	} {
		if s, e := grid.Text(k.g); s != k.want || e != api.OK {
			t.Errorf("%q, %d, want %q", s, e, k.want)
		}
	}
}

// P3.1
func TestCheckOfValid(t *testing.T) {
	for _, d := range append(samples(), small()...) {
		if e := draft.Check(d); e != api.OK {
			t.Fatalf("Check of %v: %d", d, e)
		}
	}
}

// P3.1
func TestCheck(t *testing.T) {
	side := func(w, h int) api.Grid { return api.Grid{W: w, H: h, Bits: make([]bool, w*h)} }
	list := func(n int) []int { return make([]int, n) }
	for i, k := range []struct {
		d    api.Draft
		want api.Errno
	}{
		{api.Draft{Shafts: 40, Treadles: 40, Thread: list(64), Tread: list(64), Tie: side(40, 40)}, api.OK},
		{api.Draft{Shafts: 41, Treadles: 1, Thread: list(1), Tread: list(1), Tie: side(1, 41)}, api.ErrMany},
		{api.Draft{Shafts: 1, Treadles: 41, Thread: list(1), Tread: list(1), Tie: side(41, 1)}, api.ErrMany},
		{api.Draft{Shafts: 1, Treadles: 1, Thread: list(65), Tread: list(1), Tie: side(1, 1)}, api.ErrMany},
		{api.Draft{Shafts: 1, Treadles: 1, Thread: list(1), Tread: list(65), Tie: side(1, 1)}, api.ErrMany},
		{api.Draft{Shafts: math.MaxInt, Treadles: math.MaxInt}, api.ErrMany},
		{api.Draft{Shafts: 0, Treadles: 41, Thread: []int{-1}}, api.ErrMany},
		{api.Draft{Shafts: 41, Treadles: math.MinInt}, api.ErrMany},
		{api.Draft{Shafts: 0, Treadles: 0, Tread: slices.Repeat([]int{-1}, 65)}, api.ErrMany},
		{api.Draft{Shafts: -1, Treadles: 1, Thread: slices.Repeat([]int{9}, 65)}, api.ErrMany},
		{api.Draft{}, api.ErrBad},
		{api.Draft{Shafts: 0, Treadles: 1, Thread: list(1), Tread: list(1), Tie: side(1, 1)}, api.ErrBad},
		{api.Draft{Shafts: 1, Treadles: 0, Thread: list(1), Tread: list(1), Tie: side(1, 1)}, api.ErrBad},
		{api.Draft{Shafts: 0, Treadles: 1, Thread: nil, Tread: list(1), Tie: side(1, 0)}, api.ErrBad},
		{api.Draft{Shafts: math.MinInt, Treadles: math.MinInt, Thread: list(1), Tread: list(1)}, api.ErrBad},
		{api.Draft{Shafts: 1, Treadles: 1, Thread: nil, Tread: list(1), Tie: side(1, 1)}, api.ErrBad},
		{api.Draft{Shafts: 1, Treadles: 1, Thread: list(1), Tread: []int{}, Tie: side(1, 1)}, api.ErrBad},
	} {
		if e := draft.Check(k.d); e != k.want {
			t.Errorf("Check of the draft %d: %d, want %d", i, e, k.want)
		}
	}
}

// P3.1: a number that is too great or too small, anywhere.
func TestCheckNumbers(t *testing.T) {
	for _, d := range samples() {
		for _, v := range []int{-1, math.MinInt, math.MaxInt, 40, 41, 64} {
			for _, at := range []int{0, len(d.Thread) / 2, len(d.Thread) - 1} {
				wrong := d
				wrong.Thread = slices.Clone(d.Thread)
				wrong.Thread[at] = v
				if e := draft.Check(wrong); e != api.ErrBad {
					t.Fatalf("the shaft %d of %d: %d", v, d.Shafts, e)
				}
				wrong.Thread[at] = d.Shafts
				if e := draft.Check(wrong); e != api.ErrBad {
					t.Fatalf("the shaft %d of as many: %d", d.Shafts, e)
				}
				wrong.Thread[at] = d.Shafts - 1
				if e := draft.Check(wrong); e != api.OK {
					t.Fatalf("the last shaft: %d", e)
				}
			}
			for _, at := range []int{0, len(d.Tread) / 2, len(d.Tread) - 1} {
				wrong := d
				wrong.Tread = slices.Clone(d.Tread)
				wrong.Tread[at] = v
				if e := draft.Check(wrong); e != api.ErrBad {
					t.Fatalf("the treadle %d of %d: %d", v, d.Treadles, e)
				}
				wrong.Tread[at] = d.Treadles
				if e := draft.Check(wrong); e != api.ErrBad {
					t.Fatalf("the treadle %d of as many: %d", d.Treadles, e)
				}
				wrong.Tread[at] = d.Treadles - 1
				if e := draft.Check(wrong); e != api.OK {
					t.Fatalf("the last treadle: %d", e)
				}
			}
		}
	}
}

// P3.1: a tie-up that is no grid, or has other sides than the draft.
func TestCheckTie(t *testing.T) {
	for _, tie := range []api.Grid{
		{}, {W: 3, H: 2}, {W: 3, H: 2, Bits: make([]bool, 5)}, {W: 3, H: 2, Bits: make([]bool, 7)},
		pattern(2, 3), pattern(2, 2), pattern(3, 3), pattern(3, 1), pattern(4, 2), pattern(6, 1), pattern(1, 6),
		pattern(64, 64), {W: 65, H: 1, Bits: make([]bool, 65)}, {W: 3, H: 65, Bits: make([]bool, 195)},
		{W: -3, H: -2, Bits: make([]bool, 6)}, {W: math.MaxInt, H: math.MinInt}, {W: math.MaxInt, H: math.MaxInt},
	} {
		d := api.Draft{Shafts: 2, Treadles: 3, Thread: []int{0, 1}, Tread: []int{0, 1, 2}, Tie: pattern(3, 2)}
		if e := draft.Check(d); e != api.OK {
			t.Fatal(d, e)
		}
		d.Tie = tie
		if e := draft.Check(d); e != api.ErrBad {
			t.Errorf("a tie-up of %d by %d with %d cells: %d", tie.W, tie.H, len(tie.Bits), e)
		}
	}
}

// P3.1
func TestSame(t *testing.T) {
	for _, d := range samples() {
		other := d
		other.Thread, other.Tread = slices.Clone(d.Thread), slices.Clone(d.Tread)
		other.Tie.Bits = slices.Clone(d.Tie.Bits)
		if !draft.Same(d, other) {
			t.Fatal("a copy is not the same")
		}
		for i, change := range []func(d *api.Draft){
			func(d *api.Draft) { d.Shafts++ },
			func(d *api.Draft) { d.Treadles-- },
			func(d *api.Draft) { d.Thread = append(slices.Clone(d.Thread), 0) },
			func(d *api.Draft) { d.Thread = d.Thread[:len(d.Thread)-1] },
			func(d *api.Draft) { d.Thread = slices.Clone(d.Thread); d.Thread[len(d.Thread)-1]++ },
			func(d *api.Draft) { d.Tread = append(slices.Clone(d.Tread), 0) },
			func(d *api.Draft) { d.Tread = d.Tread[1:] },
			func(d *api.Draft) { d.Tread = slices.Clone(d.Tread); d.Tread[0]-- },
			func(d *api.Draft) { d.Tie.W++ },
			func(d *api.Draft) { d.Tie.H-- },
			func(d *api.Draft) { d.Tie.Bits = nil },
			func(d *api.Draft) { d.Tie.Bits = slices.Clone(d.Tie.Bits); d.Tie.Bits[0] = !d.Tie.Bits[0] },
		} {
			changed := other
			change(&changed)
			if draft.Same(d, changed) || draft.Same(changed, d) {
				t.Fatalf("the change %d is not seen", i)
			}
		}
	}
}

// P3.1: drafts that are not valid are compared, too.
func TestSameOfInvalid(t *testing.T) {
	empty := api.Draft{Thread: []int{}, Tread: []int{}, Tie: api.Grid{Bits: []bool{}}}
	wild := api.Draft{Shafts: -1, Treadles: 99, Thread: []int{-5, 500}, Tie: api.Grid{W: 7, H: -7}}
	if !draft.Same(api.Draft{}, empty) || !draft.Same(empty, api.Draft{}) || !draft.Same(wild, wild) {
		t.Error("the same drafts are not the same")
	}
	if draft.Same(wild, empty) || draft.Same(wild, api.Draft{}) {
		t.Error("other drafts are the same")
	}
}

// P3.2
func TestWeaveLift(t *testing.T) {
	for _, d := range append(samples(), small()...) {
		wantCells(t, "Weave", cloth(t)(draft.Weave(d)), len(d.Thread), len(d.Tread), func(x, y int) bool {
			return d.Tie.Bits[d.Thread[x]*d.Treadles+d.Tread[y]]
		})
		wantCells(t, "Lift", cloth(t)(draft.Lift(d)), d.Shafts, len(d.Tread), func(s, y int) bool {
			return d.Tie.Bits[s*d.Treadles+d.Tread[y]]
		})
	}
}

// wantFromLift fails unless the draft is the one that FromLift has to return.
func wantFromLift(t *testing.T, d api.Draft, e api.Errno, thread []int, lift api.Grid) {
	t.Helper()
	must(t)(d, e)
	if d.Shafts != lift.W || !slices.Equal(d.Thread, thread) {
		t.Fatalf("%v has other shafts than %v on %d", d, thread, lift.W)
	}
	if !grid.Same(cloth(t)(draft.Lift(d)), lift) {
		t.Fatalf("the lifts of %v are not %v", d, lift)
	}
	next := 0
	for y, v := range d.Tread {
		if v > next {
			t.Fatalf("the treadles of %v are not numbered by their first picks", d)
		}
		if v == next {
			next++
		}
		for i := range y {
			same := slices.Equal(lift.Bits[i*lift.W:(i+1)*lift.W], lift.Bits[y*lift.W:(y+1)*lift.W])
			if same != (d.Tread[i] == v) {
				t.Fatalf("the treadles of %v in the picks %d and %d", d, i, y)
			}
		}
	}
	if next != d.Treadles {
		t.Fatalf("%v has treadles that it does not use", d)
	}
}

// P3.2, P3.3
func TestFromLift(t *testing.T) {
	for _, d := range append(samples(), small()...) {
		lift := cloth(t)(draft.Lift(d))
		back, e := draft.FromLift(d.Thread, lift)
		wantFromLift(t, back, e, d.Thread, lift)
	}
	d, e := draft.FromLift([]int{2, 0, 0}, read(t, "x.x\n.x.\nx.x\n...\nx.x\n"))
	wantDraft(t, "FromLift", d, e, api.Draft{
		Shafts: 3, Treadles: 3, Thread: []int{2, 0, 0}, Tread: []int{0, 1, 0, 2, 0}, Tie: read(t, "x..\n..x\nx..\n"),
	})
}

// rows returns a grid with h rows, of which the first ones are different, and
// the others are as the first one.
func rows(w, h, different int) api.Grid {
	g := api.Grid{W: w, H: h, Bits: make([]bool, w*h)}
	for y := range different {
		for x := range min(w, bits.Len(uint(different))) {
			g.Bits[y*w+x] = y>>x&1 == 1
		}
	}
	return g
}

// P3.3: from all rows the same to as many different ones as there may be.
func TestFromLiftKinds(t *testing.T) {
	for different := 1; different <= 40; different++ {
		for _, h := range []int{different, 40, 63, 64} {
			for _, w := range []int{7, 8, 40} {
				for _, ends := range []int{1, 64} {
					thread := mixed(w, ends)
					d, e := draft.FromLift(thread, rows(w, h, different))
					wantFromLift(t, d, e, thread, rows(w, h, different))
					if d.Treadles != different {
						t.Fatalf("%d treadles for %d kinds of rows", d.Treadles, different)
					}
				}
			}
		}
	}
}

// P3.3
func TestFromLiftErrors(t *testing.T) {
	fine, many := rows(40, 64, 40), rows(40, 64, 41)
	empty, bad := api.Grid{}, api.Grid{W: 2, H: 2, Bits: make([]bool, 3)}
	wide, high := api.Grid{W: 65, H: 1, Bits: make([]bool, 65)}, api.Grid{W: 1, H: 65, Bits: make([]bool, 65)}
	list := func(n int) []int { return make([]int, n) }
	for i, k := range []struct {
		thread []int
		lift   api.Grid
		want   api.Errno
	}{
		{list(64), fine, api.OK}, {[]int{39, 0}, fine, api.OK},
		{list(1), empty, api.ErrBad}, {list(65), empty, api.ErrBad}, {list(65), bad, api.ErrBad},
		{nil, wide, api.ErrMany}, {nil, high, api.ErrMany}, {list(1), api.Grid{W: 65}, api.ErrMany},
		{list(65), fine, api.ErrMany}, {slices.Repeat([]int{-1}, 65), fine, api.ErrMany}, {list(5000), fine, api.ErrMany},
		{list(1), pattern(41, 1), api.ErrMany}, {nil, pattern(41, 2), api.ErrMany}, {[]int{41}, pattern(64, 1), api.ErrMany},
		{list(1), many, api.ErrMany}, {nil, many, api.ErrMany}, {[]int{40}, many, api.ErrMany},
		{list(1), rows(6, 41, 41), api.ErrMany}, {list(1), rows(6, 64, 64), api.ErrMany},
		{nil, fine, api.ErrBad}, {[]int{}, fine, api.ErrBad}, {[]int{40}, fine, api.ErrBad}, {[]int{-1}, fine, api.ErrBad},
		{[]int{0, 39, 40}, fine, api.ErrBad}, {[]int{-1, 0}, fine, api.ErrBad}, {[]int{0, -1, 0}, fine, api.ErrBad},
		{[]int{1}, rows(1, 2, 2), api.ErrBad}, {[]int{math.MaxInt}, fine, api.ErrBad}, {[]int{math.MinInt}, fine, api.ErrBad},
	} {
		d, e := draft.FromLift(k.thread, k.lift)
		if k.want == api.OK {
			wantFromLift(t, d, e, k.thread, k.lift)
			continue
		}
		if e != k.want || !draft.Same(d, api.Draft{}) {
			t.Errorf("the call %d: %v, %d, want %d", i, d, e, k.want)
		}
	}
}

// P3.4
func TestTurn(t *testing.T) {
	for _, d := range append(samples(), small()...) {
		turned := must(t)(draft.Turn(d))
		if turned.Shafts != d.Treadles || turned.Treadles != d.Shafts ||
			!slices.Equal(turned.Thread, d.Tread) || !slices.Equal(turned.Tread, d.Thread) {
			t.Fatalf("%v turned is %v", d, turned)
		}
		wantCells(t, "the tie-up turned", turned.Tie, d.Shafts, d.Treadles, func(s, y int) bool { return up(d.Tie, y, s) })
	}
}

// left returns which numbers below n are in l, in order.
func left(l []int, n int) []int {
	var kept []int
	for v := range n {
		if slices.Contains(l, v) {
			kept = append(kept, v)
		}
	}
	return kept
}

// P3.4
func TestPrune(t *testing.T) {
	for _, d := range append(samples(), small()...) {
		shafts, treadles := left(d.Thread, d.Shafts), left(d.Tread, d.Treadles)
		pruned := must(t)(draft.Prune(d))
		if pruned.Shafts != len(shafts) || pruned.Treadles != len(treadles) ||
			len(pruned.Thread) != len(d.Thread) || len(pruned.Tread) != len(d.Tread) {
			t.Fatalf("%v pruned is %v", d, pruned)
		}
		for x, s := range pruned.Thread {
			if shafts[s] != d.Thread[x] {
				t.Fatalf("the threading of %v pruned is %v", d, pruned.Thread)
			}
		}
		for y, v := range pruned.Tread {
			if treadles[v] != d.Tread[y] {
				t.Fatalf("the treadling of %v pruned is %v", d, pruned.Tread)
			}
		}
		wantCells(t, "the tie-up pruned", pruned.Tie, len(treadles), len(shafts), func(v, s int) bool {
			return up(d.Tie, treadles[v], shafts[s])
		})
		again, e := draft.Prune(pruned)
		wantDraft(t, "pruned twice", again, e, pruned)
	}
}

// P3.4
func TestPruneGaps(t *testing.T) {
	d := api.Draft{
		Shafts: 4, Treadles: 3, Thread: []int{3, 1, 3}, Tread: []int{2, 0, 0, 2}, Tie: read(t, "xx.\n.x.\n..x\nx..\n"),
	}
	pruned, e := draft.Prune(d)
	wantDraft(t, "Prune", pruned, e, api.Draft{
		Shafts: 2, Treadles: 2, Thread: []int{1, 0, 1}, Tread: []int{1, 0, 0, 1}, Tie: read(t, "x.\n.x\n"),
	})
}

// P3.5
func TestRenumber(t *testing.T) {
	for _, d := range append(samples(), small()...) {
		for _, k := range [][2][]int{
			{count(d.Shafts), count(d.Treadles)}, {shuffled(d.Shafts), count(d.Treadles)},
			{count(d.Shafts), shuffled(d.Treadles)}, {shuffled(d.Shafts), shuffled(d.Treadles)},
		} {
			shafts, treadles := k[0], k[1]
			r := must(t)(draft.Renumber(d, shafts, treadles))
			if r.Shafts != d.Shafts || r.Treadles != d.Treadles ||
				len(r.Thread) != len(d.Thread) || len(r.Tread) != len(d.Tread) {
				t.Fatalf("%v renumbered is %v", d, r)
			}
			for x, s := range d.Thread {
				if r.Thread[x] != shafts[s] {
					t.Fatalf("the threading of %v by %v is %v", d, shafts, r.Thread)
				}
			}
			for y, v := range d.Tread {
				if r.Tread[y] != treadles[v] {
					t.Fatalf("the treadling of %v by %v is %v", d, treadles, r.Tread)
				}
			}
			wantCells(t, "the tie-up", d.Tie, d.Treadles, d.Shafts, func(v, s int) bool {
				return up(r.Tie, treadles[v], shafts[s])
			})
		}
	}
}

// P3.5: three numbers go around, so the way there is not the way back.
func TestRenumberAround(t *testing.T) {
	d := api.Draft{
		Shafts: 3, Treadles: 3, Thread: []int{0, 1, 2, 1}, Tread: []int{2, 0}, Tie: read(t, "xx.\n.x.\nx.x\n"),
	}
	r, e := draft.Renumber(d, []int{1, 2, 0}, []int{0, 1, 2})
	wantDraft(t, "the shafts", r, e, api.Draft{
		Shafts: 3, Treadles: 3, Thread: []int{1, 2, 0, 2}, Tread: []int{2, 0}, Tie: read(t, ".x.\nx.x\nxx.\n"),
	})
	r, e = draft.Renumber(d, []int{0, 1, 2}, []int{1, 2, 0})
	wantDraft(t, "the treadles", r, e, api.Draft{
		Shafts: 3, Treadles: 3, Thread: []int{0, 1, 2, 1}, Tread: []int{0, 1}, Tie: read(t, ".xx\n..x\nxx.\n"),
	})
}

// P3.5: of all short lists, exactly those with each number once are taken.
func TestRenumberLists(t *testing.T) {
	d := whole(3, 2, 5, 4)
	var lists [][]int
	for i := 0; i <= 4; i++ {
		for v := range 625 {
			l := make([]int, i)
			for k := range l {
				l[k] = v%5 - 1
				v /= 5
			}
			lists = append(lists, l)
		}
	}
	isOrder := func(l []int, n int) bool {
		sorted := slices.Clone(l)
		slices.Sort(sorted)
		return slices.Equal(sorted, count(n))
	}
	for _, l := range lists {
		r, e := draft.Renumber(d, l, []int{1, 0})
		if isOrder(l, 3) {
			must(t)(r, e)
		} else {
			wantError(t, "shafts", r, e, api.ErrArg)
		}
		r, e = draft.Renumber(d, []int{1, 2, 0}, l)
		if isOrder(l, 2) {
			must(t)(r, e)
		} else {
			wantError(t, "treadles", r, e, api.ErrArg)
		}
	}
}

// P3.5
func TestRenumberErrors(t *testing.T) {
	d := whole(40, 40, 64, 64)
	fine := shuffled(40)
	twice := append(count(39), 38)
	for _, l := range [][]int{
		nil, {}, {0}, count(39), count(41), count(1000), twice, append(count(39), 40), append(count(39), -1),
		append(count(39), math.MaxInt), append(count(39), math.MinInt), make([]int, 40), append([]int{40}, count(40)[1:]...),
	} {
		r, e := draft.Renumber(d, l, fine)
		wantError(t, "shafts", r, e, api.ErrArg)
		r, e = draft.Renumber(d, fine, l)
		wantError(t, "treadles", r, e, api.ErrArg)
		r, e = draft.Renumber(d, l, l)
		wantError(t, "both", r, e, api.ErrArg)
	}
	d = whole(2, 3, 4, 5)
	r, e := draft.Renumber(d, count(3), count(2))
	wantError(t, "lists exchanged", r, e, api.ErrArg)
}

// P3.6
func TestConsequences(t *testing.T) {
	for _, d := range append(samples(), small()...) {
		woven := cloth(t)(draft.Weave(d))
		turned := must(t)(draft.Turn(d))
		if !grid.Same(cloth(t)(draft.Weave(turned)), cloth(t)(grid.Turn(woven))) {
			t.Fatalf("the drawdown of %v turned is another one", d)
		}
		back, e := draft.Turn(turned)
		wantDraft(t, "turned twice", back, e, d)
		for _, other := range []api.Draft{
			must(t)(draft.Prune(d)), must(t)(draft.Renumber(d, shuffled(d.Shafts), shuffled(d.Treadles))),
		} {
			if !grid.Same(cloth(t)(draft.Weave(other)), woven) {
				t.Fatalf("the drawdowns of %v and %v differ", d, other)
			}
		}
		lift := cloth(t)(draft.Lift(d))
		from := must(t)(draft.FromLift(d.Thread, lift))
		wantCells(t, "the drawdown of FromLift", cloth(t)(draft.Weave(from)), len(d.Thread), lift.H, func(x, y int) bool {
			return up(lift, d.Thread[x], y)
		})
		straight := must(t)(draft.FromLift(count(lift.W), lift))
		if !grid.Same(cloth(t)(draft.Weave(straight)), lift) {
			t.Fatalf("the drawdown of %v is not its lifts", straight)
		}
		d.Thread = count(d.Shafts)
		if !grid.Same(cloth(t)(draft.Weave(d)), cloth(t)(draft.Lift(d))) {
			t.Fatalf("the drawdown of %v is not its lifts", d)
		}
	}
}
