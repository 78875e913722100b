package skeleton_test

import (
	"math/bits"
	"slices"
	"strings"
	"testing"

	"raddle/api"
	"raddle/draft"
	"raddle/grid"
	"raddle/skeleton"
)

// read returns the grid with a text.
func read(t *testing.T, s string) api.Grid {
	t.Helper()
	g, e := grid.Parse(s)
	if e != api.OK {
		t.Fatalf("Parse(%q): %d", s, e)
	}
	return g
}

// show returns the text of a grid on lines of their own.
func show(g api.Grid) string {
	s, e := grid.Text(g)
	if e != api.OK {
		return "no grid"
	}
	return "\n" + s
}

// ofRows returns the grid whose rows are these sets of shafts.
func ofRows(shafts int, rows []int) api.Grid {
	g := api.Grid{W: shafts, H: len(rows)}
	for _, set := range rows {
		for s := range shafts {
			g.Bits = append(g.Bits, set&(1<<s) != 0)
		}
	}
	return g
}

// mixed returns a list of numbers below n in no order.
func mixed(n, length int) []int {
	l := make([]int, length)
	seed := uint32(n*1000 + length)
	for i := range l {
		seed = seed*1664525 + 1013904223
		l[i] = int(seed>>8) % n
	}
	return l
}

// span returns the numbers from a to b.
func span(a, b int) []int {
	var l []int
	for v := a; v <= b; v++ {
		l = append(l, v)
	}
	return l
}

// digits returns the places of the binary digits of n that are 1.
func digits(n int) []int {
	var l []int
	for i := 0; n>>i != 0; i++ {
		if n>>i%2 == 1 {
			l = append(l, i)
		}
	}
	return l
}

// tieUp returns the tie-up that has the set i if the binary digit i-1 of n is
// 1. All tie-ups of so many shafts are those of the numbers below tieUps.
func tieUp(n int) []int {
	l := digits(n)
	for i := range l {
		l[i]++
	}
	return l
}

func tieUps(shafts int) int { return 1 << (1<<shafts - 1) }

// before reports whether a list has fewer numbers than another one, or as many
// and the first one that differs is less.
func before(a, b []int) bool {
	return len(a) < len(b) || len(a) == len(b) && slices.Compare(a, b) < 0
}

// pressings returns the best pressing for each lift that has one, by going
// over all sets of treadles.
func pressings(tie []int, feet int) map[int][]int {
	found := map[int][]int{}
	for n := range 1 << len(tie) {
		if bits.OnesCount(uint(n)) > feet {
			continue
		}
		treadles, lift := digits(n), 0
		for _, treadle := range treadles {
			lift |= tie[treadle]
		}
		if press, has := found[lift]; !has || before(treadles, press) {
			found[lift] = treadles
		}
	}
	return found
}

// reach returns the lifts that a tie-up covers: the digit i of it is 1 if it
// covers the lift i.
func reach(tie []int, feet int) int {
	lifts := 0
	for lift := range pressings(tie, feet) {
		lifts |= 1 << lift
	}
	return lifts
}

// leasts returns the least tie-up for each set of lifts without the empty one,
// which has the lift i if the digit i-1 of its number is 1. They are found by
// going over all tie-ups, and then handed on from sets of lifts to the sets
// that have one less.
func leasts(shafts, feet int) [][]int {
	all := tieUps(shafts)
	least := make([][]int, all)
	for n := range all {
		lifts, tie := reach(tieUp(n), feet)>>1, tieUp(n)
		if lifts > 0 && (least[lifts] == nil || before(tie, least[lifts])) {
			least[lifts] = tie
		}
	}
	for lifts := all - 1; lifts > 0; lifts-- {
		for _, i := range digits(lifts) {
			fewer := lifts - 1<<i
			if fewer > 0 && (least[fewer] == nil || before(least[lifts], least[fewer])) {
				least[fewer] = least[lifts]
			}
		}
	}
	return least
}

// wantLeast checks the least tie-up of some lifts.
func wantLeast(t *testing.T, shafts int, lifts []int, feet int, want []int) {
	t.Helper()
	tie, e := skeleton.Least(shafts, lifts, feet)
	if e != api.OK || !slices.Equal(tie, want) {
		t.Errorf("Least(%d, %v, %d): %v, %d, want %v", shafts, lifts, feet, tie, e, want)
	}
}

// wantPress checks the best pressing for a lift.
func wantPress(t *testing.T, tie []int, shafts, lift, feet int, want []int) {
	t.Helper()
	press, e := skeleton.Press(tie, shafts, lift, feet)
	if e != api.OK || !slices.Equal(press, want) {
		t.Errorf("Press(%v, %d, %d, %d): %v, %d, want %v", tie, shafts, lift, feet, press, e, want)
	}
}

// wantNoPress checks that there is no pressing for a lift.
func wantNoPress(t *testing.T, tie []int, shafts, lift, feet int) {
	t.Helper()
	press, e := skeleton.Press(tie, shafts, lift, feet)
	if press != nil || e != api.ErrNone {
		t.Errorf("Press(%v, %d, %d, %d): %v, %d, want %d", tie, shafts, lift, feet, press, e, api.ErrNone)
	}
}

// wantCovers checks whether a tie-up covers lifts.
func wantCovers(t *testing.T, tie []int, shafts int, lifts []int, feet int, want bool) {
	t.Helper()
	is, e := skeleton.Covers(tie, shafts, lifts, feet)
	if e != api.OK || is != want {
		t.Errorf("Covers(%v, %d, %v, %d): %v, %d, want %v", tie, shafts, lifts, feet, is, e, want)
	}
}

// The examples of the chapter.
func TestExamples(t *testing.T) {
	wantLeast(t, 2, []int{1, 2, 3}, 2, []int{1, 2})
	wantPress(t, []int{1, 2}, 2, 3, 2, []int{0, 1})
	wantLeast(t, 4, span(1, 14), 2, []int{1, 2, 3, 4, 8, 12})
}

// P5.1
func TestCheck(t *testing.T) {
	for _, c := range []struct {
		tie    []int
		shafts int
		want   api.Errno
	}{
		{nil, 1, api.OK},
		{[]int{}, 4, api.OK},
		{[]int{1}, 1, api.OK},
		{[]int{1, 2, 3}, 2, api.OK},
		{[]int{7}, 3, api.OK},
		{[]int{2, 5, 9}, 4, api.OK},
		{span(1, 15), 4, api.OK},

		{[]int{0}, 1, api.ErrBad},
		{[]int{0, 1}, 2, api.ErrBad},
		{[]int{-1}, 2, api.ErrBad},
		{[]int{-1, 1}, 2, api.ErrBad},
		{[]int{1, 1}, 2, api.ErrBad},
		{[]int{1, 2, 2}, 2, api.ErrBad},
		{[]int{2, 1}, 2, api.ErrBad},
		{[]int{1, 3, 2}, 2, api.ErrBad},
		{[]int{2}, 1, api.ErrBad},
		{[]int{1, 2, 3, 4}, 2, api.ErrBad},
		{[]int{8}, 3, api.ErrBad},
		{[]int{16}, 4, api.ErrBad},
		{span(1, 16), 4, api.ErrBad},
		{span(0, 15), 4, api.ErrBad},

		{nil, 0, api.ErrArg},
		{nil, 5, api.ErrArg},
		{nil, -1, api.ErrArg},
		{[]int{1}, 0, api.ErrArg},
		{[]int{1, 2}, 5, api.ErrArg},
		{[]int{0}, 5, api.ErrArg},
		{[]int{3, 2}, 0, api.ErrArg},
	} {
		if e := skeleton.Check(c.tie, c.shafts); e != c.want {
			t.Errorf("Check(%v, %d): %d, want %d", c.tie, c.shafts, e, c.want)
		}
	}
}

// P5.1: of all lists of up to three small numbers, just the tie-ups are valid.
func TestCheckOfAllSmallLists(t *testing.T) {
	for shafts := 1; shafts <= api.MaxSkeleton; shafts++ {
		valid := 0
		for n := range 20 * 20 * 20 {
			l := []int{n%20 - 2, n/20%20 - 2, n/400 - 2}
			if skeleton.Check(l, shafts) == api.OK {
				valid++
			}
			isValid := 0 < l[0] && l[0] < l[1] && l[1] < l[2] && l[2] < 1<<shafts
			if (skeleton.Check(l, shafts) == api.OK) != isValid {
				t.Errorf("Check(%v, %d) is wrong", l, shafts)
			}
		}
		sets := 1<<shafts - 1
		if want := sets * (sets - 1) * (sets - 2) / 6; valid != want {
			t.Errorf("%d tie-ups of %d shafts with three treadles, want %d", valid, shafts, want)
		}
	}
}

// P5.1
func TestLifts(t *testing.T) {
	for _, c := range []struct {
		text string
		want []int
	}{
		{"x\n", []int{1}},
		{".\n", nil},
		{".\n.\n.\n", nil},
		{"x\n.\nx\n", []int{1}},
		{"x.\n.x\n", []int{1, 2}},
		{".x\nx.\n", []int{1, 2}},
		{"xx\nxx\n..\n.x\nxx\n", []int{2, 3}},
		{"...\n", nil},
		{"..x\nx..\n.x.\n", []int{1, 2, 4}},
		{"....\n", nil},
		{"...x\n", []int{8}},
		{"xxxx\n", []int{15}},
		{"..xx\n.xx.\nxx..\nx..x\n", []int{3, 6, 9, 12}},
		{".xxx\nx...\n.xxx\n....\nx..x\n", []int{1, 9, 14}},
	} {
		l, e := skeleton.Lifts(read(t, c.text))
		if e != api.OK || !slices.Equal(l, c.want) {
			t.Errorf("Lifts(%q): %v, %d, want %v", c.text, l, e, c.want)
		}
	}
}

// P5.1: the lifts of a grid with any rows are those that it was made of.
func TestLiftsOfAllSets(t *testing.T) {
	for shafts := 1; shafts <= api.MaxSkeleton; shafts++ {
		for _, h := range []int{1, 2, 5, 16, 63, 64} {
			for n := range min(tieUps(shafts), 300) {
				lifts := tieUp(n * 97 % tieUps(shafts))
				rows := append(slices.Clone(lifts), 0)
				if len(rows) > h {
					continue
				}
				for _, v := range mixed(len(rows), h-len(rows)) {
					rows = append(rows, rows[v])
				}
				if l, e := skeleton.Lifts(ofRows(shafts, rows)); e != api.OK || !slices.Equal(l, lifts) {
					t.Fatalf("Lifts of the rows %v: %v, %d, want %v", rows, l, e, lifts)
				}
			}
		}
	}
}

// P5.1
func TestLiftsOfTooManyColumns(t *testing.T) {
	for w := 5; w <= api.MaxSide; w++ {
		for _, h := range []int{1, 2, api.MaxSide} {
			if l, e := skeleton.Lifts(api.Grid{W: w, H: h, Bits: make([]bool, w*h)}); l != nil || e != api.ErrMany {
				t.Errorf("Lifts of %d by %d: %v, %d, want %d", w, h, l, e, api.ErrMany)
			}
		}
	}
}

// P5.2
func TestPress(t *testing.T) {
	for _, c := range []struct {
		tie                []int
		shafts, lift, feet int
		want               []int
	}{
		{nil, 1, 0, 1, nil},
		{nil, 4, 0, 4, nil},
		{[]int{1}, 1, 0, 1, nil},
		{[]int{1}, 1, 1, 1, []int{0}},
		{[]int{1}, 1, 1, 4, []int{0}},
		{[]int{1, 2}, 2, 2, 1, []int{1}},
		{[]int{1, 2}, 2, 3, 4, []int{0, 1}},

		// One treadle is better than two of them that come first.
		{[]int{1, 2, 3}, 2, 3, 2, []int{2}},
		{[]int{1, 2, 4, 7}, 3, 7, 4, []int{3}},

		// Of those with as many treadles the first index that differs decides.
		{[]int{1, 2, 3, 5, 6}, 3, 7, 2, []int{0, 4}},
		{[]int{3, 5, 6}, 3, 7, 4, []int{0, 1}},
		{[]int{2, 3, 4, 5}, 3, 7, 3, []int{0, 3}},
		{[]int{1, 2, 4, 8, 9}, 4, 15, 3, []int{1, 2, 4}},
		{span(1, 14), 4, 15, 2, []int{0, 13}},
		{span(1, 15), 4, 15, 4, []int{14}},

		{[]int{1, 2, 4, 8}, 4, 15, 4, []int{0, 1, 2, 3}},
		{[]int{1, 2, 4, 8}, 4, 14, 3, []int{1, 2, 3}},
	} {
		wantPress(t, c.tie, c.shafts, c.lift, c.feet, c.want)
	}
}

// P5.2
func TestNoPress(t *testing.T) {
	for _, c := range []struct {
		tie                []int
		shafts, lift, feet int
	}{
		{nil, 1, 1, 1},
		{nil, 4, 15, 4},
		{[]int{1}, 2, 2, 4},
		{[]int{3}, 2, 1, 4},
		{[]int{2, 3}, 2, 1, 4},
		{[]int{1, 2}, 2, 3, 1},
		{[]int{1, 2, 4}, 3, 7, 2},
		{[]int{1, 2, 4, 8}, 4, 15, 3},
		{[]int{3, 5, 6, 7, 9}, 4, 8, 4},
		{[]int{3, 7, 11, 15}, 4, 12, 4},
	} {
		wantNoPress(t, c.tie, c.shafts, c.lift, c.feet)
	}
}

// P5.2: Press and Covers for all lifts and feet, with all tie-ups of up to
// three shafts, and with many of four.
func TestPressWithAllTieUps(t *testing.T) {
	for shafts := 1; shafts <= api.MaxSkeleton; shafts++ {
		all := tieUps(shafts)
		step := 1 + all/129
		for n := all - 1; n >= 0; n -= step {
			for feet := 1; feet <= api.MaxFeet; feet++ {
				tie := tieUp(n)
				found := pressings(tie, feet)
				for lift := range 1 << shafts {
					want, has := found[lift]
					wantCovers(t, tie, shafts, []int{lift}, feet, has)
					if has {
						wantPress(t, tie, shafts, lift, feet, want)
					} else {
						wantNoPress(t, tie, shafts, lift, feet)
					}
				}
			}
		}
	}
}

// P5.2
func TestCovers(t *testing.T) {
	for _, c := range []struct {
		tie    []int
		shafts int
		lifts  []int
		feet   int
		want   bool
	}{
		{nil, 1, nil, 1, true},
		{nil, 4, []int{0}, 1, true},
		{nil, 4, []int{0, 0, 0}, 4, true},
		{nil, 1, []int{1}, 4, false},
		{[]int{1}, 1, []int{1, 0, 1, 1}, 1, true},
		{[]int{1, 2}, 2, []int{3, 2, 1, 0}, 2, true},
		{[]int{1, 2}, 2, []int{1, 2, 3}, 1, false},
		{[]int{1, 2}, 2, []int{3, 1, 2}, 1, false},
		{[]int{1, 2}, 2, []int{2, 1}, 1, true},
		{[]int{1, 2, 4, 8}, 4, span(0, 15), 4, true},
		{[]int{1, 2, 4, 8}, 4, span(0, 14), 3, true},
		{[]int{1, 2, 4, 8}, 4, span(0, 15), 3, false},
		{[]int{1, 2, 3, 4, 8, 12}, 4, span(0, 15), 2, true},
		{[]int{1, 2, 3, 4, 8, 9}, 4, span(0, 15), 2, false},
		{span(1, 15), 4, span(0, 15), 1, true},
		{span(1, 14), 4, span(0, 15), 1, false},
		{span(2, 15), 4, span(0, 15), 4, false},
	} {
		wantCovers(t, c.tie, c.shafts, c.lifts, c.feet, c.want)
	}
}

// P5.2: a lift that is not covered is found wherever it is in a long list.
func TestCoversOfLongLists(t *testing.T) {
	lifts := mixed(8, 100000)
	tie := []int{1, 2, 4}
	wantCovers(t, tie, 4, lifts, 3, true)
	for _, i := range []int{0, 1, 50000, 99998, 99999} {
		changed := slices.Clone(lifts)
		changed[i] = 8
		wantCovers(t, tie, 4, changed, 4, false)
	}
}

// P5.3
func TestLeast(t *testing.T) {
	for _, c := range []struct {
		shafts int
		lifts  []int
		feet   int
		want   []int
	}{
		{1, nil, 1, nil},
		{4, nil, 4, nil},
		{1, []int{0}, 1, nil},
		{4, []int{0, 0}, 3, nil},
		{1, []int{1}, 1, []int{1}},
		{1, []int{1, 0, 1}, 4, []int{1}},
		{2, []int{3, 0, 3, 3}, 4, []int{3}},
		{2, []int{3, 2}, 1, []int{2, 3}},
		{2, []int{3, 2, 1}, 1, []int{1, 2, 3}},
		{2, []int{3, 2, 1}, 4, []int{1, 2}},

		// Several tie-ups with the fewest treadles cover these, such as 1, 2 and
		// 2, 3 the first ones; the first set that differs decides.
		{2, []int{2, 3}, 2, []int{1, 2}},
		{2, []int{1, 3}, 2, []int{1, 2}},
		{3, []int{3, 7}, 2, []int{3, 4}},
		{3, []int{3, 5, 7}, 2, []int{3, 5}},
		{4, []int{7, 11, 13, 14}, 2, []int{1, 6, 10, 12}},

		{4, span(0, 15), 1, span(1, 15)},
		{4, span(0, 15), 2, []int{1, 2, 3, 4, 8, 12}},
		{4, span(0, 15), 3, []int{1, 2, 3, 4, 8}},
		{4, span(0, 14), 3, []int{1, 2, 4, 8}},
		{4, span(0, 15), 4, []int{1, 2, 4, 8}},
		{3, span(0, 7), 2, []int{1, 2, 3, 4}},
		{3, span(0, 7), 3, []int{1, 2, 4}},
	} {
		wantLeast(t, c.shafts, c.lifts, c.feet, c.want)
	}
}

// P5.3: the least tie-ups of all lifts of up to three shafts, and of many of
// four.
func TestLeastOfAllLifts(t *testing.T) {
	for shafts := 1; shafts <= api.MaxSkeleton; shafts++ {
		for feet := 1; feet <= api.MaxFeet; feet++ {
			want := leasts(shafts, feet)
			for n := len(want) - 1; n >= 0; n -= 1 + len(want)/1000 {
				wantLeast(t, shafts, tieUp(n), feet, want[n])
			}
		}
	}
}

// P5.3: the order of lifts, empty ones, and those that come again change
// nothing.
func TestLeastOfLiftsInAnyOrder(t *testing.T) {
	for n := 1; n < tieUps(4); n += 613 {
		lifts := tieUp(n)
		for feet := 1; feet <= api.MaxFeet; feet++ {
			want, _ := skeleton.Least(4, lifts, feet)
			more := append(slices.Concat(lifts, []int{0}, lifts), 0, lifts[0])
			slices.Reverse(more)
			wantLeast(t, 4, more, feet, want)
		}
	}
	wantLeast(t, 4, slices.Repeat(span(0, 14), 10000), 2, []int{1, 2, 3, 4, 8, 12})
}

// grids returns grids of each number of shafts, of few and many rows.
func grids() []api.Grid {
	var l []api.Grid
	for shafts := 1; shafts <= api.MaxSkeleton; shafts++ {
		for _, h := range []int{1, 2, 3, 5, 9, 20, 63, 64} {
			l = append(l, ofRows(shafts, mixed(1<<shafts, h)), ofRows(shafts, slices.Repeat([]int{1<<shafts - 1}, h)))
		}
	}
	return append(l, ofRows(4, span(0, 15)), ofRows(4, []int{0, 0, 8, 0}), ofRows(4, []int{7, 11, 13, 14}))
}

// P5.4
func TestPlan(t *testing.T) {
	for _, c := range []struct {
		lift  string
		feet  int
		tie   string
		press [][]int
	}{
		{"x\n", 1, "x\n", [][]int{{0}}},
		{".\nx\n.\n", 4, "x\n", [][]int{nil, {0}, nil}},
		{"xx\n.x\nx.\n", 2, ".x\nx.\n", [][]int{{0}, {1}, {0, 1}}},
		{"xx\n.x\nx.\n", 1, ".xx\nx.x\n", [][]int{{0}, {1}, {2}}},
		{"xxx\nxx.\n", 1, ".x\nxx\nxx\n", [][]int{{0}, {1}}},
		{"xxx\nxx.\n", 2, ".x\nx.\nx.\n", [][]int{{0}, {0, 1}}},
		{"xx..\n..xx\n....\nxxxx\n", 2, ".x\n.x\nx.\nx.\n", [][]int{{0, 1}, nil, {1}, {0}}},
		{"...x\n", 1, "x\n.\n.\n.\n", [][]int{{0}}},
	} {
		tie, press, e := skeleton.Plan(read(t, c.lift), c.feet)
		if e != api.OK || !grid.Same(tie, read(t, c.tie)) || !slices.EqualFunc(press, c.press, slices.Equal) {
			t.Errorf("Plan(%q, %d): %s, %v, %d, want %q, %v", c.lift, c.feet, show(tie), press, e, c.tie, c.press)
		}
	}
}

// P5.4: a plan has the least tie-up of the lifts, and the best pressings.
func TestPlanIsLeast(t *testing.T) {
	for _, g := range grids() {
		for feet := 1; feet <= api.MaxFeet; feet++ {
			lifts, _ := skeleton.Lifts(g)
			sets, _ := skeleton.Least(g.W, lifts, feet)
			tie, press, e := skeleton.Plan(g, feet)
			if len(lifts) == 0 {
				if e != api.ErrNone {
					t.Fatalf("Plan(%s, %d): %d, want %d", show(g), feet, e, api.ErrNone)
				}
				continue
			}
			turned, _ := grid.Turn(tie)
			if e != api.OK || grid.Check(tie) != api.OK || !grid.Same(turned, ofRows(g.W, sets)) || len(press) != g.H {
				t.Fatalf("Plan(%s, %d): %s, %v, %d", show(g), feet, show(tie), press, e)
			}
			found := pressings(sets, feet)
			for y := range g.H {
				lift := 0
				for s := range g.W {
					if g.Bits[y*g.W+s] {
						lift |= 1 << s
					}
				}
				if !slices.Equal(press[y], found[lift]) {
					t.Fatalf("the pick %d of %s is pressed with %v, want %v", y, show(g), press[y], found[lift])
				}
			}
		}
	}
}

// P5.4: with one foot, a plan is a draft whose cloth has the rows as lifts.
func TestPlanAsDraft(t *testing.T) {
	for shafts := 1; shafts <= api.MaxSkeleton; shafts++ {
		rows := mixed(1<<shafts-1, api.MaxSide)
		for i := range rows {
			rows[i]++
		}
		g := ofRows(shafts, rows)
		tie, press, e := skeleton.Plan(g, 1)
		if e != api.OK {
			t.Fatalf("Plan(%s, 1): %d", show(g), e)
		}
		d := api.Draft{Shafts: shafts, Treadles: tie.W, Thread: span(0, shafts-1), Tie: tie}
		for _, treadles := range press {
			d.Tread = append(d.Tread, treadles...)
		}
		if cloth, e := draft.Weave(d); e != api.OK || !grid.Same(cloth, g) {
			t.Errorf("the plan of %s weaves %s, %d", show(g), show(cloth), e)
		}
	}
}

// P5.4
func TestPlanOfEmptyRows(t *testing.T) {
	for w := 1; w <= api.MaxSkeleton; w++ {
		for _, h := range []int{1, 2, 64} {
			text := strings.Repeat(strings.Repeat(".", w)+"\n", h)
			for feet := 1; feet <= api.MaxFeet; feet++ {
				wantNoPlan(t, read(t, text), feet, api.ErrNone)
			}
		}
	}
}

// P5.5: the least tie-up covers its lifts, and none with fewer treadles does.
func TestLeastCovers(t *testing.T) {
	for feet := 1; feet <= api.MaxFeet; feet++ {
		for n := 0; n < tieUps(3); n++ {
			lifts := tieUp(n)
			least, _ := skeleton.Least(3, lifts, feet)
			wantCovers(t, least, 3, lifts, feet, true)
			for other := range tieUps(3) {
				if tie := tieUp(other); len(tie) < len(least) {
					wantCovers(t, tie, 3, lifts, feet, false)
				}
			}
		}
		for n := 0; n < tieUps(4); n += 211 {
			least, _ := skeleton.Least(4, tieUp(n), feet)
			wantCovers(t, least, 4, tieUp(n), feet, true)
		}
	}
}

// P5.5: with one foot the least tie-up has the lifts that are not empty.
func TestLeastWithOneFoot(t *testing.T) {
	for shafts := 1; shafts <= api.MaxSkeleton; shafts++ {
		for n := 0; n < tieUps(shafts); n += 1 + tieUps(shafts)/500 {
			wantLeast(t, shafts, append(tieUp(n), 0), 1, tieUp(n))
		}
	}
}

// P5.5: with more feet, or fewer lifts, the least tie-up has not more treadles.
func TestLeastWithMoreFeetOrFewerLifts(t *testing.T) {
	treadles := func(lifts []int, feet int) int {
		tie, e := skeleton.Least(4, lifts, feet)
		if e != api.OK {
			t.Fatalf("Least(4, %v, %d): %d", lifts, feet, e)
		}
		return len(tie)
	}
	for n := 1; n < tieUps(4); n += 509 {
		lifts := tieUp(n)
		for feet := 1; feet <= api.MaxFeet; feet++ {
			most := treadles(lifts, feet)
			if feet < api.MaxFeet && treadles(lifts, feet+1) > most {
				t.Errorf("%v needs more treadles with %d feet than with %d", lifts, feet+1, feet)
			}
			for i := range lifts {
				if fewer := slices.Delete(slices.Clone(lifts), i, i+1); treadles(fewer, feet) > most {
					t.Errorf("%v needs more treadles than %v with %d feet", fewer, lifts, feet)
				}
			}
		}
	}
}

// P5.5: with four feet the shafts one by one cover everything.
func TestShaftsOneByOne(t *testing.T) {
	for shafts := 1; shafts <= api.MaxSkeleton; shafts++ {
		wantCovers(t, []int{1, 2, 4, 8}[:shafts], shafts, span(0, 1<<shafts-1), 4, true)
	}
}
