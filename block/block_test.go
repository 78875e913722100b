package block_test

import (
	"fmt"
	"slices"
	"testing"

	"raddle/api"
	"raddle/block"
	"raddle/grid"
	"raddle/thread"
)

// filling has what a grid is filled with.
type filling struct {
	profile, pattern, ground api.Grid
}

// read returns the grid with a text.
func read(t *testing.T, s string) api.Grid {
	t.Helper()
	g, e := grid.Parse(s)
	if e != api.OK {
		t.Fatalf("Parse(%q): %d", s, e)
	}
	return g
}

// show returns the texts of grids, each on lines of their own.
func show(grids ...api.Grid) string {
	all := ""
	for _, g := range grids {
		s, e := grid.Text(g)
		if e != api.OK {
			s = "no grid\n"
		}
		all += "\n" + s
	}
	return all
}

// build returns the grid with these sides and cells.
func build(w, h int, up func(x, y int) bool) api.Grid {
	g := api.Grid{W: w, H: h}
	for y := range h {
		for x := range w {
			g.Bits = append(g.Bits, up(x, y))
		}
	}
	return g
}

// blank returns the grid whose cells are all up, or all down.
func blank(w, h int, isUp bool) api.Grid {
	return build(w, h, func(int, int) bool { return isUp })
}

// plain returns a grid of which each cell is unlike the ones beside it.
func plain(w, h int) api.Grid {
	return build(w, h, func(x, y int) bool { return (x+y)%2 == 0 })
}

// random returns a grid whose cells follow no rule.
func random(w, h int, seed uint32) api.Grid {
	return build(w, h, func(int, int) bool {
		seed = seed*1664525 + 1013904223
		return seed>>31 == 1
	})
}

// changed returns a grid with one cell changed.
func changed(g api.Grid, x, y int) api.Grid {
	return build(g.W, g.H, func(i, k int) bool { return g.Bits[k*g.W+i] != (i == x && k == y) })
}

// all returns all grids with these sides.
func all(w, h int) []api.Grid {
	var l []api.Grid
	for v := range 1 << (w * h) {
		l = append(l, build(w, h, func(x, y int) bool { return v>>(y*w+x)&1 == 1 }))
	}
	return l
}

// some returns grids with these sides of many kinds.
func some(w, h int) []api.Grid {
	return []api.Grid{
		blank(w, h, true), blank(w, h, false), plain(w, h), random(w, h, 1), random(w, h, 2), random(w, h, 3),
		changed(blank(w, h, true), 0, 0), changed(blank(w, h, false), w-1, h-1), changed(blank(w, h, false), 0, h-1), changed(blank(w, h, true), w/2, h/2),
	}
}

// sizes has sides of which the grids are small enough that all are tried.
var sizes = [][2]int{{1, 1}, {1, 2}, {2, 1}, {1, 3}, {3, 1}, {2, 2}}

// smallFillings returns all profiles of small grids with all pairs of small units.
func smallFillings() []filling {
	var l []filling
	for _, p := range sizes {
		for _, u := range sizes {
			for _, profile := range all(p[0], p[1]) {
				for _, pattern := range all(u[0], u[1]) {
					for _, ground := range all(u[0], u[1]) {
						l = append(l, filling{profile, pattern, ground})
					}
				}
			}
		}
	}
	return l
}

// greatFillings returns fillings that have sides of up to MaxSide.
func greatFillings() []filling {
	var l []filling
	for _, s := range [][4]int{
		{64, 64, 1, 1}, {1, 1, 64, 64}, {32, 32, 2, 2}, {2, 2, 32, 32}, {8, 4, 8, 16}, {1, 64, 64, 1}, {64, 1, 1, 64},
		{7, 5, 9, 12}, {21, 9, 3, 7}, {5, 3, 4, 6}, {4, 2, 3, 5}, {1, 16, 5, 4}, {16, 1, 4, 5}, {63, 31, 1, 2},
	} {
		grids, units := some(s[0], s[1]), some(s[2], s[3])
		for i, profile := range grids {
			for k, pattern := range units {
				l = append(l, filling{profile, pattern, units[(i+2*k)%len(units)]})
			}
		}
	}
	return l
}

// fillings returns all fillings of small grids, and some great ones.
func fillings() []filling {
	return append(smallFillings(), greatFillings()...)
}

// fillOf returns the profile filled with the units, by the definition.
func fillOf(f filling) api.Grid {
	w, h := f.pattern.W, f.pattern.H
	g := blank(f.profile.W*w, f.profile.H*h, false)
	for j := range f.profile.H {
		for i := range f.profile.W {
			unit := f.ground
			if f.profile.Bits[j*f.profile.W+i] {
				unit = f.pattern
			}
			for y := range h {
				for x := range w {
					g.Bits[(j*h+y)*g.W+i*w+x] = unit.Bits[y*w+x]
				}
			}
		}
	}
	return g
}

// partOf returns the part of a grid at a place, by the definition.
func partOf(g api.Grid, i, j, w, h int) api.Grid {
	return build(w, h, func(x, y int) bool { return g.Bits[(j*h+y)*g.W+i*w+x] })
}

// unitsOf returns the units of a grid and their places, by the definition.
func unitsOf(g api.Grid, w, h int) ([]api.Grid, []int) {
	var units []api.Grid
	var at []int
	known := map[string]int{}
	for j := range g.H / h {
		for i := range g.W / w {
			part := partOf(g, i, j, w, h)
			s := show(part)
			if _, isKnown := known[s]; !isKnown {
				known[s] = len(units)
				units = append(units, part)
			}
			at = append(at, known[s])
		}
	}
	return units, at
}

// joinOf returns the grid with units at their places, by the definition.
func joinOf(units []api.Grid, at []int, w int) api.Grid {
	u := units[0]
	g := blank(w*u.W, len(at)/w*u.H, false)
	for i, k := range at {
		for c, isUp := range units[k].Bits {
			g.Bits[(i/w*u.H+c/u.W)*g.W+i%w*u.W+c%u.W] = isUp
		}
	}
	return g
}

// isNone reports whether a grid is the zero value.
func isNone(g api.Grid) bool { return grid.Same(g, api.Grid{}) }

// wantFill checks a filled profile.
func wantFill(t *testing.T, f filling, want api.Grid) {
	t.Helper()
	if g, e := block.Fill(f.profile, f.pattern, f.ground); !grid.Same(g, want) || e != api.OK {
		t.Fatalf("Fill: %s, %d, want %s, for%s", show(g), e, show(want), show(f.profile, f.pattern, f.ground))
	}
}

// wantNoFill checks that there is no filled profile.
func wantNoFill(t *testing.T, f filling, want api.Errno) {
	t.Helper()
	if g, e := block.Fill(f.profile, f.pattern, f.ground); !isNone(g) || e != want {
		t.Fatalf("Fill: %s, %d, want %d, for%s", show(g), e, want, show(f.profile, f.pattern, f.ground))
	}
}

// wantProfile checks the profile of a grid.
func wantProfile(t *testing.T, g, pattern, ground, want api.Grid) {
	t.Helper()
	if p, e := block.Profile(g, pattern, ground); !grid.Same(p, want) || e != api.OK {
		t.Fatalf("Profile: %s, %d, want %s, for%s", show(p), e, show(want), show(g, pattern, ground))
	}
}

// wantNoProfile checks that there is no profile.
func wantNoProfile(t *testing.T, g, pattern, ground api.Grid, want api.Errno) {
	t.Helper()
	if p, e := block.Profile(g, pattern, ground); !isNone(p) || e != want {
		t.Fatalf("Profile: %s, %d, want %d, for%s", show(p), e, want, show(g, pattern, ground))
	}
}

// wantUnits checks the units of a grid, and the places.
func wantUnits(t *testing.T, g api.Grid, w, h int, want []api.Grid, wantAt []int) {
	t.Helper()
	units, at, e := block.Units(g, w, h)
	if !slices.EqualFunc(units, want, grid.Same) || !slices.Equal(at, wantAt) || e != api.OK {
		t.Fatalf("Units of %d by %d: %s%v, %d, want %s%v, for%s", w, h, show(units...), at, e, show(want...), wantAt, show(g))
	}
}

// wantNoUnits checks that there are no units of a size.
func wantNoUnits(t *testing.T, g api.Grid, w, h int, want api.Errno) {
	t.Helper()
	if units, at, e := block.Units(g, w, h); len(units) != 0 || len(at) != 0 || e != want {
		t.Fatalf("Units of %d by %d: %s%v, %d, want %d, for%s", w, h, show(units...), at, e, want, show(g))
	}
}

// wantJoin checks the grid with units at places.
func wantJoin(t *testing.T, units []api.Grid, at []int, w int, want api.Grid) {
	t.Helper()
	if g, e := block.Join(units, at, w); !grid.Same(g, want) || e != api.OK {
		t.Fatalf("Join at %v, %d: %s, %d, want %s, for%s", at, w, show(g), e, show(want), show(units...))
	}
}

// wantNoJoin checks that there is no grid with units at places.
func wantNoJoin(t *testing.T, units []api.Grid, at []int, w int, want api.Errno) {
	t.Helper()
	if g, e := block.Join(units, at, w); !isNone(g) || e != want {
		t.Fatalf("Join at %v, %d: %s, %d, want %d, for%s", at, w, show(g), e, want, show(units...))
	}
}

func TestExamples(t *testing.T) {
	profile := read(t, "x.\n")
	wantFill(t, filling{profile, read(t, "x\n"), read(t, ".\n")}, profile)
	wantFill(t, filling{profile, read(t, "x.\n.x\n"), read(t, "..\nx.\n")}, read(t, "x...\n.xx.\n"))
	g := read(t, "xx..\nxx..\n")
	wantUnits(t, g, 2, 2, []api.Grid{blank(2, 2, true), blank(2, 2, false)}, []int{0, 1})
	wantSpell(t, []int{0, 1, 0}, [][]int{{0, 1}, {2, 3}}, []int{0, 1, 2, 3, 0, 1})
	wantBlocks(t, []int{0, 1, 2, 3, 0, 1}, [][]int{{0, 1}, {2, 3}}, []int{0, 1, 0})
}

// P13.1: the pattern for cells that are up, the ground for those that are down.
func TestSomeProfiles(t *testing.T) {
	for _, c := range []struct {
		profile, pattern, ground, cloth string
	}{
		{"x\n", "x\n", ".\n", "x\n"},
		{".\n", "x\n", ".\n", ".\n"},
		{"x\n", ".\n", "x\n", ".\n"},
		{".\n", ".\n", "x\n", "x\n"},
		{"x\n", "x..\n.x.\n", "xxx\n...\n", "x..\n.x.\n"},
		{".\n", "x..\n.x.\n", "xxx\n...\n", "xxx\n...\n"},
		{"x.\n", "x..\n", ".xx\n", "x...xx\n"},
		{"x\n.\n", "x..\n", ".xx\n", "x..\n.xx\n"},
		{"x\n.\n.\n", "x\n.\n", ".\n.\n", "x\n.\n.\n.\n.\n.\n"},
		{".x\nxx\n", "xx.\n..x\n", "x..\n.x.\n", "x..xx.\n.x...x\nxx.xx.\n..x..x\n"},
		{"x..\n.xx\n", ".x\n", "x.\n", ".xx.x.\nx..x.x\n"},
	} {
		f, cloth := filling{read(t, c.profile), read(t, c.pattern), read(t, c.ground)}, read(t, c.cloth)
		wantFill(t, f, cloth)
		wantProfile(t, cloth, f.pattern, f.ground, f.profile)
	}
}

// P13.1 and P13.4: all small profiles and great ones, and Profile of Fill.
// Units may be equal for Fill, but not for Profile.
func TestFillAndProfile(t *testing.T) {
	for _, f := range fillings() {
		g := fillOf(f)
		wantFill(t, f, g)
		if grid.Same(f.pattern, f.ground) {
			wantNoProfile(t, g, f.pattern, f.ground, api.ErrTwice)
		} else {
			wantProfile(t, g, f.pattern, f.ground, f.profile)
		}
	}
}

// P13.1 and P13.4: all small grids have the one profile that gives them, which
// is filled again, or have none.
func TestProfileOfAllSmallGrids(t *testing.T) {
	found, none := 0, 0
	for _, s := range [][4]int{{3, 1, 1, 1}, {1, 3, 1, 1}, {2, 1, 2, 1}, {2, 2, 2, 1}, {2, 2, 1, 2}, {3, 1, 2, 1}, {1, 2, 2, 2}, {2, 1, 2, 2}, {1, 1, 3, 2}, {1, 1, 2, 2}, {2, 1, 1, 3}, {1, 3, 3, 1}} {
		grids, units := all(s[0]*s[2], s[1]*s[3]), all(s[2], s[3])
		for i, pattern := range units[:min(16, len(units))] {
			ground := units[(3*i+1)%len(units)]
			if grid.Same(pattern, ground) {
				continue
			}
			made := map[string]api.Grid{}
			for _, profile := range all(s[0], s[1]) {
				made[show(fillOf(filling{profile, pattern, ground}))] = profile
			}
			for _, g := range grids {
				profile, isMade := made[show(g)]
				if !isMade {
					none++
					wantNoProfile(t, g, pattern, ground, api.ErrNone)
					continue
				}
				found++
				wantProfile(t, g, pattern, ground, profile)
				wantFill(t, filling{profile, pattern, ground}, g)
			}
		}
	}
	if found < 300 || none < 1000 {
		t.Errorf("%d grids have a profile, and %d have none", found, none)
	}
}

// P13.1: one cell that is changed, wherever it is, makes the part neither unit,
// but if the units differ in that cell alone.
func TestProfileOfChangedGrids(t *testing.T) {
	for _, s := range [][4]int{{1, 1, 2, 2}, {2, 3, 3, 2}, {3, 2, 4, 1}, {8, 8, 8, 8}, {64, 1, 1, 5}, {1, 16, 64, 4}} {
		f := filling{random(s[0], s[1], 7), plain(s[2], s[3]), blank(s[2], s[3], true)}
		g := fillOf(f)
		for y := range g.H {
			for x := range g.W {
				wantNoProfile(t, changed(g, x, y), f.pattern, f.ground, api.ErrNone)
			}
		}
		for i := range s[2] * s[3] {
			near := filling{f.profile, f.pattern, changed(f.pattern, i%s[2], i/s[2])}
			g := fillOf(near)
			last, y := s[2]*(s[0]-1), i/s[2]
			wantProfile(t, g, near.pattern, near.ground, f.profile)
			wantProfile(t, changed(g, last+i%s[2], y), near.pattern, near.ground, changed(f.profile, s[0]-1, 0))
			if s[2] > 1 {
				wantNoProfile(t, changed(g, last+(i+1)%s[2], y), near.pattern, near.ground, api.ErrNone)
			}
		}
	}
}

// P13.1: a result has sides of up to MaxSide.
func TestGreatSides(t *testing.T) {
	for _, profile := range [][2]int{{1, 1}, {1, 64}, {64, 1}, {64, 64}, {2, 3}, {32, 16}, {33, 16}, {16, 32}, {16, 33}, {21, 22}, {22, 21}, {63, 13}, {12, 63}} {
		for _, unit := range [][2]int{{1, 1}, {1, 2}, {2, 1}, {2, 2}, {3, 3}, {4, 2}, {2, 4}, {5, 5}, {32, 1}, {1, 32}, {33, 21}, {64, 64}, {64, 1}, {1, 64}} {
			f := filling{random(profile[0], profile[1], 3), plain(unit[0], unit[1]), random(unit[0], unit[1], 4)}
			if profile[0]*unit[0] > 64 || profile[1]*unit[1] > 64 {
				wantNoFill(t, f, api.ErrMany)
			} else {
				wantFill(t, f, fillOf(f))
			}
		}
	}
}

// P13.1: units of different sizes, and sides that are no multiples of theirs.
func TestSidesThatDoNotFit(t *testing.T) {
	for _, s := range [][4]int{{1, 1, 1, 2}, {1, 1, 2, 1}, {2, 3, 3, 2}, {2, 2, 4, 1}, {2, 2, 2, 1}, {64, 64, 64, 63}, {64, 64, 1, 64}, {1, 6, 6, 1}} {
		p, q := plain(s[0], s[1]), plain(s[2], s[3])
		for _, g := range []api.Grid{plain(1, 1), plain(2, 2), plain(6, 6), plain(64, 64), p, q} {
			for _, f := range []filling{{g, p, q}, {g, q, p}} {
				wantNoFill(t, f, api.ErrCount)
				wantNoProfile(t, f.profile, f.pattern, f.ground, api.ErrCount)
			}
		}
	}
	for w := 1; w <= 9; w++ {
		for h := 1; h <= 9; h++ {
			g := plain(w, h)
			for i := 1; i <= 10; i++ {
				for k := 1; k <= 10; k++ {
					pattern, ground := plain(i, k), changed(plain(i, k), i-1, k-1)
					if w%i != 0 || h%k != 0 {
						wantNoProfile(t, g, pattern, ground, api.ErrCount)
					} else if _, e := block.Profile(g, pattern, ground); e == api.ErrCount {
						t.Fatalf("Profile: %d, for%s", e, show(g, pattern))
					}
				}
			}
		}
	}
}

// P13.1: units that are equal, whether the grid is made of them or not.
func TestEqualUnits(t *testing.T) {
	for _, s := range [][2]int{{1, 1}, {1, 2}, {2, 1}, {2, 2}, {4, 3}, {8, 8}, {64, 64}} {
		for _, u := range some(s[0], s[1]) {
			for _, g := range []api.Grid{u, changed(u, 0, 0), changed(u, s[0]-1, s[1]-1), blank(64/s[0]*s[0], 64/s[1]*s[1], true)} {
				wantNoProfile(t, g, u, build(u.W, u.H, func(x, y int) bool { return u.Bits[y*u.W+x] }), api.ErrTwice)
			}
			small := blank(2, 2, true)
			wantFill(t, filling{blank(1, 1, true), u, u}, u)
			wantFill(t, filling{small, small, small}, blank(4, 4, true))
		}
	}
}

// P13.2: the first row first, in each row the first part first.
func TestSomeUnits(t *testing.T) {
	for _, c := range []struct {
		cloth string
		w, h  int
		units []string
		at    []int
	}{
		{"x\n", 1, 1, []string{"x\n"}, []int{0}},
		{".\n", 1, 1, []string{".\n"}, []int{0}},
		{"x.\n", 1, 1, []string{"x\n", ".\n"}, []int{0, 1}},
		{".x\n", 1, 1, []string{".\n", "x\n"}, []int{0, 1}},
		{"x\n.\n", 1, 1, []string{".\n", "x\n"}, []int{0, 1}},
		{"x.\n.x\n", 1, 1, []string{".\n", "x\n"}, []int{0, 1, 1, 0}},
		{"x.\n.x\n", 2, 1, []string{".x\n", "x.\n"}, []int{0, 1}},
		{"x.\n.x\n", 1, 2, []string{"x\n.\n", ".\nx\n"}, []int{0, 1}},
		{"x.\n.x\n", 2, 2, []string{"x.\n.x\n"}, []int{0}},
		{"x.x.\n.x.x\nx.x.\n.x.x\n", 2, 2, []string{"x.\n.x\n"}, []int{0, 0, 0, 0}},
		{"xx..x.\n....xx\n", 2, 1, []string{"..\n", "xx\n", "x.\n"}, []int{0, 0, 1, 1, 0, 2}},
		{"xx..x.\n....xx\n", 3, 2, []string{"xx.\n...\n", ".x.\n.xx\n"}, []int{0, 1}},
		{"xx..x.\n....xx\n", 2, 2, []string{"xx\n..\n", "..\n..\n", "x.\nxx\n"}, []int{0, 1, 2}},
		{"x..x\nx..x\n.xx.\n.xx.\n", 2, 2, []string{".x\n.x\n", "x.\nx.\n"}, []int{0, 1, 1, 0}},
	} {
		var units []api.Grid
		for _, s := range c.units {
			units = append(units, read(t, s))
		}
		g := read(t, c.cloth)
		wantUnits(t, g, c.w, c.h, units, c.at)
		wantJoin(t, units, c.at, g.W/c.w, g)
	}
}

// P13.2 and P13.4: the units of all small grids and of great ones, for each size
// that divides the sides, are different, and are joined again.
func TestUnitsAndJoin(t *testing.T) {
	var grids []api.Grid
	for _, s := range [][2]int{{1, 1}, {1, 4}, {4, 1}, {2, 2}, {3, 2}, {2, 3}, {4, 2}, {2, 4}, {3, 3}} {
		grids = append(grids, all(s[0], s[1])...)
	}
	for _, s := range [][2]int{{64, 64}, {64, 1}, {1, 64}, {63, 64}, {60, 48}, {12, 18}, {61, 2}} {
		grids = append(grids, some(s[0], s[1])...)
	}
	for _, g := range grids {
		for w := 1; w <= g.W; w++ {
			for h := 1; h <= g.H; h++ {
				if g.W%w != 0 || g.H%h != 0 {
					wantNoUnits(t, g, w, h, api.ErrCount)
					continue
				}
				units, at := unitsOf(g, w, h)
				wantUnits(t, g, w, h, units, at)
				wantJoin(t, units, at, g.W/w, g)
			}
		}
	}
}

// P13.4: units are different, and each is at one of the places.
func TestUnitsAreDifferent(t *testing.T) {
	for _, g := range []api.Grid{random(64, 64, 8), random(60, 48, 9), plain(64, 64), blank(63, 5, true), random(12, 1, 4)} {
		for _, s := range [][2]int{{1, 1}, {2, 1}, {3, 1}, {4, 1}, {2, 2}, {3, 2}, {4, 4}, {4, 3}, {8, 8}} {
			units, at, e := block.Units(g, s[0], s[1])
			if e != api.OK {
				continue
			}
			seen := map[string]bool{}
			for i, u := range units {
				if seen[show(u)] || !slices.Contains(at, i) {
					t.Fatalf("unit %d is there twice, or at no place, for%s", i, show(g))
				}
				seen[show(u)] = true
			}
		}
	}
}

// P13.2: sizes that divide no side, or that are 0 or negative.
func TestSizesThatDoNotFit(t *testing.T) {
	for _, g := range []api.Grid{plain(1, 1), plain(1, 6), plain(6, 1), plain(4, 6), plain(6, 4), plain(64, 64), plain(61, 59)} {
		for _, s := range [][2]int{{0, 0}, {0, 1}, {1, 0}, {-1, 1}, {1, -1}, {-1, -1}, {-g.W, g.H}, {g.W, -g.H}, {g.W + 1, 1}, {1, g.H + 1}, {2 * g.W, g.H}, {g.W, 2 * g.H}, {65, 65}, {5, 1}, {1, 5}, {0, g.H}, {g.W, 0}, {7, 7}} {
			wantNoUnits(t, g, s[0], s[1], api.ErrCount)
		}
		wantUnits(t, g, g.W, g.H, []api.Grid{g}, []int{0})
	}
}

// P13.2: units in all orders, some at several places and some at none, equal
// ones among them.
func TestJoin(t *testing.T) {
	for _, s := range sizes {
		grids := all(s[0], s[1])
		for _, count := range []int{1, 2, 3, len(grids)} {
			for step := range 4 {
				var units []api.Grid
				for i := range count {
					units = append(units, grids[(i*step+step)%len(grids)])
				}
				for n := 1; n <= 12; n++ {
					at := make([]int, n)
					for i := range at {
						at[i] = i * (step + 1) % count
					}
					for w := 1; w <= n; w++ {
						if n%w == 0 {
							wantJoin(t, units, at, w, joinOf(units, at, w))
						} else {
							wantNoJoin(t, units, at, w, api.ErrCount)
						}
					}
				}
			}
		}
	}
}

// P13.2: the numbers of places and of places in a row, and the sides, up to
// MaxSide and one more.
func TestJoinOfManyPlaces(t *testing.T) {
	for _, s := range [][2]int{{1, 1}, {2, 1}, {1, 2}, {3, 4}, {5, 1}, {1, 7}, {32, 33}, {33, 32}, {64, 64}, {64, 1}, {1, 64}} {
		units := []api.Grid{plain(s[0], s[1]), random(s[0], s[1], 2), blank(s[0], s[1], false)}
		widest, highest := 64/s[0], 64/s[1]
		for _, w := range []int{1, 2, widest - 1, widest, widest + 1, 64, 65, 128, 129} {
			for _, h := range []int{1, 2, highest - 1, highest, highest + 1, 64, 65, 128, 129} {
				if w < 1 || h < 1 {
					continue
				}
				at := make([]int, w*h)
				for i := range at {
					at[i] = (i*i + i/w) % 3
				}
				if w > widest || h > highest {
					wantNoJoin(t, units, at, w, api.ErrMany)
				} else {
					wantJoin(t, units, at, w, joinOf(units, at, w))
				}
			}
		}
	}
}

// P13.2: there may be as many units as there are grids.
func TestJoinOfManyUnits(t *testing.T) {
	units := append(all(3, 3), all(3, 3)...)
	at := make([]int, 21*21)
	for i := range at {
		at[i] = len(units) - 1 - 2*i
	}
	wantJoin(t, units, at, 21, joinOf(units, at, 21))
	units = slices.Repeat([]api.Grid{plain(1, 1), blank(1, 1, false)}, 5000)
	wantJoin(t, units, []int{9999, 0, 4001, 9998}, 2, read(t, ".x\n.x\n"))
	wantNoJoin(t, units, []int{9999, 0, 4001, 10000}, 2, api.ErrBad)
	wantNoJoin(t, append(units, plain(1, 2)), []int{0}, 1, api.ErrCount)
	wantNoJoin(t, append(units, api.Grid{}), []int{0}, 1, api.ErrBad)
}

// P13.4: a profile that is turned, filled with turned units, is the filled
// profile turned.
func TestTurnedProfiles(t *testing.T) {
	for _, f := range fillings() {
		g, _ := block.Fill(f.profile, f.pattern, f.ground)
		want, _ := grid.Turn(g)
		profile, _ := grid.Turn(f.profile)
		pattern, _ := grid.Turn(f.pattern)
		ground, _ := grid.Turn(f.ground)
		wantFill(t, filling{profile, pattern, ground}, want)
	}
}

// P13.4: filling the opposite profile is filling with the units exchanged.
func TestOppositeProfiles(t *testing.T) {
	for _, f := range fillings() {
		want, _ := block.Fill(f.profile, f.ground, f.pattern)
		opposite, _ := grid.Not(f.profile)
		wantFill(t, filling{opposite, f.pattern, f.ground}, want)
	}
}

// P13.4: a profile shifted by cells gives the grid shifted by units.
func TestShiftedProfiles(t *testing.T) {
	for _, f := range fillings() {
		g, _ := block.Fill(f.profile, f.pattern, f.ground)
		for _, s := range [][2]int{{1, 0}, {0, 1}, {-1, 0}, {0, -1}, {1, 1}, {3, -2}} {
			profile, _ := grid.Shift(f.profile, s[0], s[1])
			want, _ := grid.Shift(g, s[0]*f.pattern.W, s[1]*f.pattern.H)
			wantFill(t, filling{profile, f.pattern, f.ground}, want)
		}
	}
}

// P13.1, P13.2 and P13.4: a grid that is filled has the units as its units, in
// the order of their first places, and the profile as the places.
func TestUnitsOfFilledProfiles(t *testing.T) {
	for _, f := range fillings() {
		if grid.Same(f.pattern, f.ground) {
			continue
		}
		g, _ := block.Fill(f.profile, f.pattern, f.ground)
		units, at, e := block.Units(g, f.pattern.W, f.pattern.H)
		if e != api.OK || len(at) != len(f.profile.Bits) {
			t.Fatalf("Units: %d places, %d, for%s", len(at), e, show(f.profile, f.pattern, f.ground))
		}
		for i, isUp := range f.profile.Bits {
			if grid.Same(units[at[i]], f.pattern) != isUp {
				t.Fatalf("the unit at the place %d is%s, for%s", i, show(units[at[i]]), show(f.profile, f.pattern, f.ground))
			}
		}
		wantJoin(t, []api.Grid{f.ground, f.pattern}, numbers(f.profile), f.profile.W, g)
	}
}

// numbers returns 1 for each cell that is up, and 0 for each one that is down.
func numbers(g api.Grid) []int {
	var l []int
	for _, isUp := range g.Bits {
		n := 0
		if isUp {
			n = 1
		}
		l = append(l, n)
	}
	return l
}

// wantSpell checks spelled blocks.
func wantSpell(t *testing.T, blocks []int, units [][]int, want []int) {
	t.Helper()
	if l, e := block.Spell(blocks, units); !slices.Equal(l, want) || e != api.OK {
		t.Fatalf("Spell: %v, %d, want %v, for %v, %v", l, e, want, blocks, units)
	}
}

// wantNoSpell checks that blocks are not spelled.
func wantNoSpell(t *testing.T, blocks []int, units [][]int, want api.Errno) {
	t.Helper()
	if l, e := block.Spell(blocks, units); len(l) != 0 || e != want {
		t.Fatalf("Spell: %v, %d, want %d, for %v, %v", l, e, want, blocks, units)
	}
}

// wantBlocks checks the blocks of a list.
func wantBlocks(t *testing.T, l []int, units [][]int, want []int) {
	t.Helper()
	if blocks, e := block.Blocks(l, units); !slices.Equal(blocks, want) || e != api.OK {
		t.Fatalf("Blocks: %v, %d, want %v, for %v, %v", blocks, e, want, l, units)
	}
}

// wantNoBlocks checks that there are no blocks of a list.
func wantNoBlocks(t *testing.T, l []int, units [][]int, want api.Errno) {
	t.Helper()
	if blocks, e := block.Blocks(l, units); len(blocks) != 0 || e != want {
		t.Fatalf("Blocks: %v, %d, want %d, for %v, %v", blocks, e, want, l, units)
	}
}

// lists returns all lists of a length with elements below n.
func lists(length, n int) [][]int {
	l := [][]int{nil}
	for range length {
		var longer [][]int
		for _, start := range l {
			for v := range n {
				longer = append(longer, append(slices.Clone(start), v))
			}
		}
		l = longer
	}
	return l
}

// spellOf returns blocks spelled with units, by the definition.
func spellOf(blocks []int, units [][]int) []int {
	var l []int
	for _, b := range blocks {
		for _, v := range units[b] {
			l = append(l, v)
		}
	}
	return l
}

// areDifferent reports whether no two units are equal.
func areDifferent(units [][]int) bool {
	seen := map[string]bool{}
	for _, u := range units {
		seen[fmt.Sprint(u)] = true
	}
	return len(seen) == len(units)
}

// threadings returns lists of units with equal lengths: all small ones, and some
// great ones, equal units among them.
func threadings() [][][]int {
	all := [][][]int{
		{{399}}, {{399, 0}, {0, 399}}, {{5, 5, 5}, {5, 5, 6}, {6, 5, 5}}, {{0, 1, 2, 1}, {0, 3, 4, 3}, {0, 1, 2, 2}},
		{slices.Repeat([]int{7}, 400)}, {slices.Repeat([]int{7}, 200), slices.Repeat([]int{399}, 200)},
	}
	for length := 1; length <= 3; length++ {
		for count := 1; count <= 4-length; count++ {
			for _, l := range lists(length*count, 3) {
				all = append(all, slices.Collect(slices.Chunk(l, length)))
			}
		}
	}
	return all
}

// P13.3 and P13.4: all short blocks with small threadings and great ones, and
// Blocks of Spell.
func TestSpellAndBlocks(t *testing.T) {
	for _, units := range threadings() {
		for n := range 5 {
			for _, blocks := range lists(n, len(units)) {
				if n*len(units[0]) > 400 {
					wantNoSpell(t, blocks, units, api.ErrMany)
					continue
				}
				l := spellOf(blocks, units)
				wantSpell(t, blocks, units, l)
				if areDifferent(units) {
					wantBlocks(t, l, units, blocks)
				} else {
					wantNoBlocks(t, l, units, api.ErrTwice)
				}
			}
		}
	}
}

// P13.3: all short lists have the blocks that give them, or have none, or have a
// length that does not fit.
func TestBlocksOfAllShortLists(t *testing.T) {
	kinds := map[api.Errno]int{}
	for _, units := range [][][]int{{{0}}, {{1}, {0}}, {{2}, {0}}, {{0, 0}}, {{0, 1}, {1, 0}}, {{1, 1}, {0, 0}, {0, 1}}, {{0, 1, 2}}, {{2, 2, 1}, {2, 2, 2}}, {{0, 0, 0, 0, 1}}} {
		made := map[string][]int{}
		length := len(units[0])
		for n := range 7 {
			for _, blocks := range lists(n, len(units)) {
				made[fmt.Sprint(spellOf(blocks, units))] = blocks
			}
		}
		for n := range 7 {
			for _, l := range lists(n, 3) {
				blocks, isMade := made[fmt.Sprint(l)]
				switch {
				case n%length != 0:
					kinds[api.ErrCount]++
					wantNoBlocks(t, l, units, api.ErrCount)
				case isMade:
					kinds[api.OK]++
					wantBlocks(t, l, units, blocks)
				default:
					kinds[api.ErrNone]++
					wantNoBlocks(t, l, units, api.ErrNone)
				}
			}
		}
	}
	if kinds[api.OK] < 100 || kinds[api.ErrNone] < 100 || kinds[api.ErrCount] < 100 {
		t.Errorf("these errors: %v", kinds)
	}
}

// P13.3: a result of up to MaxList elements.
func TestLongLists(t *testing.T) {
	for _, length := range []int{1, 2, 3, 7, 16, 20, 133, 199, 200, 201, 399, 400} {
		units := make([][]int, 3)
		for i := range units {
			for k := range length {
				units[i] = append(units[i], (k*k+i*(k%5)+i)%400)
			}
		}
		for _, n := range []int{1, 2, 3, 399, 400, 400/length - 1, 400 / length, 400/length + 1} {
			if n < 1 || n > 400 {
				continue
			}
			blocks := make([]int, n)
			for i := range blocks {
				blocks[i] = i * i % 3
			}
			if n*length > 400 {
				wantNoSpell(t, blocks, units, api.ErrMany)
				continue
			}
			l := spellOf(blocks, units)
			wantSpell(t, blocks, units, l)
			wantBlocks(t, l, units, blocks)
			// An element that is changed, or is missing.
			for _, i := range []int{0, len(l) / 2, len(l) - 1} {
				other := slices.Clone(l)
				other[i] = (other[i] + 200) % 400
				wantNoBlocks(t, other, units, api.ErrNone)
				if length > 1 {
					wantNoBlocks(t, slices.Delete(slices.Clone(l), i, i+1), units, api.ErrCount)
				}
			}
		}
	}
}

// P13.3: from one to MaxList units, of which each one can be a block.
func TestManyUnits(t *testing.T) {
	var units [][]int
	for i := range 400 {
		units = append(units, []int{399 - i})
	}
	straight, _ := thread.Straight(400, 400)
	back, _ := thread.Reverse(straight)
	wantSpell(t, straight, units, back)
	wantBlocks(t, back, units, straight)
	wantSpell(t, []int{0, 399}, units, []int{399, 0})
	wantNoSpell(t, []int{1}, append(units, []int{1}), api.ErrArg)
	wantNoBlocks(t, []int{1}, append(units, []int{1}), api.ErrArg)
	wantNoSpell(t, []int{1}, nil, api.ErrArg)
	wantNoBlocks(t, []int{1}, nil, api.ErrArg)
	wantNoSpell(t, []int{399}, units[:399], api.ErrBad)
	wantSpell(t, []int{398}, units[:399], []int{1})
	wantNoBlocks(t, []int{0}, units[:399], api.ErrNone)
	// The last two of 400 units are equal.
	twice := slices.Concat(units[:399], units[398:399])
	wantNoBlocks(t, []int{399}, twice, api.ErrTwice)
	wantSpell(t, []int{399, 398}, twice, []int{1, 1})
}

// P13.3: no block gives no element, and no element has no block.
func TestNoBlocks(t *testing.T) {
	for _, units := range threadings() {
		wantSpell(t, nil, units, nil)
		wantSpell(t, []int{}, units, []int{})
		if areDifferent(units) {
			wantBlocks(t, nil, units, nil)
			wantBlocks(t, []int{}, units, []int{})
		} else {
			wantNoBlocks(t, nil, units, api.ErrTwice)
		}
	}
}
