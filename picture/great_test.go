package picture_test

import (
	"slices"
	"testing"

	"raddle/api"
	"raddle/colour"
	"raddle/grid"
	"raddle/picture"
)

// puzzle is an image as sentences of two parts, of which one at least has to be
// true. The thread t (ends first) has the colour c, or has it not: these are the
// literals (16t + c) * 2 and the next number. leads tells which ones follow from
// each one.
type puzzle struct {
	m     api.Image
	leads [][]int
}

// newPuzzle returns the sentences of an image: each cell has the colour of its end
// or of its pick, and of two colours each thread has not the one, or not the other.
func newPuzzle(m api.Image) puzzle {
	p := puzzle{m, make([][]int, (m.W+m.H)*32)}
	for i, c := range m.C {
		p.either(p.has(i%m.W, c), p.has(m.W+i/m.W, c))
	}
	for t := range m.W + m.H {
		for c := range 16 {
			for k := range c {
				p.either(p.has(t, c)+1, p.has(t, k)+1)
			}
		}
	}
	return p
}

// has returns the literal that a thread has a colour.
func (p puzzle) has(t, c int) int { return (16*t + c) * 2 }

// either adds a sentence.
func (p puzzle) either(a, b int) {
	p.leads[a^1] = append(p.leads[a^1], b)
	p.leads[b^1] = append(p.leads[b^1], a)
}

// isSolved reports whether all sentences can be true, with these literals: if no
// literal and its opposite follow from each other.
func (p puzzle) isSolved(given ...int) bool {
	q := puzzle{p.m, slices.Clone(p.leads)}
	for _, a := range given {
		q.leads[a^1] = append(slices.Clone(q.leads[a^1]), a)
	}
	group := q.groups()
	for a := 0; a < len(group); a += 2 {
		if group[a] == group[a+1] {
			return false
		}
	}
	return true
}

// groups returns a number for each literal, the same for those that follow from
// each other (Tarjan's way).
func (p puzzle) groups() []int {
	n := len(p.leads)
	group, seen, low := slices.Repeat([]int{-1}, n), make([]int, n), make([]int, n)
	var stack []int
	count, groups := 0, 0
	var visit func(a int)
	visit = func(a int) {
		count++
		seen[a], low[a] = count, count
		stack = append(stack, a)
		for _, b := range p.leads[a] {
			if seen[b] == 0 {
				visit(b)
				low[a] = min(low[a], low[b])
			} else if group[b] < 0 {
				low[a] = min(low[a], seen[b])
			}
		}
		for low[a] == seen[a] && group[a] < 0 {
			group[stack[len(stack)-1]] = groups
			stack = stack[:len(stack)-1]
		}
		groups++
	}
	for a := range p.leads {
		if seen[a] == 0 {
			visit(a)
		}
	}
	return group
}

// first returns the first thread colours that fit, if some do, by putting the
// literals of one thread after the other to the given ones.
func (p puzzle) first() []int {
	var l, given []int
	for t := range p.m.W + p.m.H {
		c := 0
		for c < 16 && !p.isSolved(append(given, p.has(t, c))...) {
			c++
		}
		l, given = append(l, c), append(given, p.has(t, c))
	}
	return l
}

// choices returns the choices of a thread.
func (p puzzle) choices(t int) []int {
	var l []int
	for c := range 16 {
		if p.isSolved(p.has(t, c)) {
			l = append(l, c)
		}
	}
	return l
}

// wantSolved checks First and Choices by the puzzle of an image, and reports
// whether thread colours fit it.
func wantSolved(t *testing.T, m api.Image) bool {
	t.Helper()
	p := newPuzzle(m)
	if !p.isSolved() {
		wantNoFit(t, m, api.ErrNone)
		return false
	}
	l := p.first()
	wantFirst(t, m, l[:m.W], l[m.W:])
	var choices [][]int
	for i := range m.W + m.H {
		choices = append(choices, p.choices(i))
	}
	wantChoices(t, m, choices[:m.W], choices[m.W:])
	return true
}

// P15.3: the puzzles agree with the definition on small images.
func TestPuzzles(t *testing.T) {
	for _, s := range [][2]int{{1, 1}, {2, 1}, {2, 2}, {2, 3}} {
		for _, m := range allImages(s[0], s[1], 0, 1, 2) {
			if wantSolved(t, m) != (tryFew(m).fit > 0) {
				t.Fatalf("%s is no puzzle", text(m))
			}
		}
	}
}

// P15.3: images of more threads than can be tried.
func TestGreatImages(t *testing.T) {
	none, some := 0, 0
	for _, s := range [][2]int{{8, 8}, {6, 13}, {15, 4}, {12, 11}} {
		for _, of := range []int{2, 3, 6, 16} {
			for _, others := range []int{0, 1, 2, 5} {
				for seed := range uint32(3) {
					if wantSolved(t, mixed(s[0], s[1], of, others, seed)) {
						some++
					} else {
						none++
					}
				}
			}
		}
	}
	if none < 20 || some < 20 {
		t.Errorf("%d fit none, %d some", none, some)
	}
}

// patterns returns steps, blocks and the like: images in which each colour leads
// on far.
func patterns(w, h int) []api.Image {
	rules := []func(x, y int) bool{
		func(x, y int) bool { return x == y },
		func(x, y int) bool { return x <= y },
		func(x, y int) bool { return x == y || x == y+1 },
		func(x, y int) bool { return x/2 == y/2 },
		func(x, y int) bool { return (x+y)%2 == 0 },
		func(x, y int) bool { return x == 0 || y == 0 },
		func(x, y int) bool { return x%3 == 0 && y%2 == 0 },
	}
	var l []api.Image
	for _, rule := range rules {
		for _, c := range [][2]int{{0, 1}, {7, 3}, {15, 0}} {
			l = append(l, build(w, h, func(x, y int) int {
				if rule(x, y) {
					return c[1]
				}
				return c[0]
			}))
		}
		l = append(l, build(w, h, func(x, y int) int {
			if rule(x, y) {
				return x % 16
			}
			return 15 - y%16
		}))
	}
	return l
}

// P15.3: these for some sizes.
func TestPatterns(t *testing.T) {
	for _, s := range [][2]int{{2, 3}, {5, 4}, {7, 7}, {9, 16}, {17, 6}} {
		for _, m := range patterns(s[0], s[1]) {
			wantSolved(t, m)
		}
	}
}

// P15.3: the first colours and the choices of images with sides of MaxSide, some
// of them: all that come before are tried at some threads.
func TestGreatestImages(t *testing.T) {
	l := patterns(64, 64)
	for seed := range uint32(4) {
		l = append(l, mixed(64, 64, 3, int(seed), seed), mixed(64, 64, 16, int(seed), seed))
	}
	for i, m := range l {
		p := newPuzzle(m)
		if !p.isSolved() {
			wantNoFit(t, m, api.ErrNone)
			continue
		}
		warp, weft, e := picture.First(m)
		ends, picks, e2 := picture.Choices(m)
		if e != api.OK || e2 != api.OK || len(ends) != 64 || len(picks) != 64 {
			t.Fatalf("%s: %v, %v, %d, %d", text(m), warp, weft, e, e2)
		}
		threads, choices := slices.Concat(warp, weft), slices.Concat(ends, picks)
		for _, k := range []int{0, 1 + i, 63 - i, 64, 65 + i, 127} {
			var given []int
			for j, c := range threads[:k] {
				given = append(given, p.has(j, c))
			}
			for c := range threads[k] + 1 {
				if p.isSolved(append(given, p.has(k, c))...) != (c == threads[k]) {
					t.Fatalf("First of %s: %v, %v is not the first at %d", text(m), warp, weft, k)
				}
			}
			if !slices.Equal(choices[k], p.choices(k)) {
				t.Fatalf("Choices of %s: %v at %d", text(m), choices[k], k)
			}
		}
	}
}

// fitting returns images of all kinds that thread colours fit.
func fitting(t *testing.T) []api.Image {
	t.Helper()
	var l []api.Image
	n := 0
	cloths(t, func(g api.Grid, d dyed) {
		if n++; n%3 == 0 || g.W*g.H < 1000 {
			l = append(l, d.m)
		}
	})
	for _, s := range append(smallSizes, [2]int{64, 64}, [2]int{1, 64}, [2]int{16, 16}, [2]int{5, 7}) {
		for _, m := range patterns(s[0], s[1]) {
			if newPuzzle(m).isSolved() {
				l = append(l, m)
			}
		}
	}
	return l
}

// P15.4: thread colours of a cloth fit its front: they are no less than the first
// ones, and among the choices.
func TestColoursOfCloths(t *testing.T) {
	earlier := 0
	cloths(t, func(g api.Grid, d dyed) {
		warp, weft, e := picture.First(d.m)
		ends, picks, e2 := picture.Choices(d.m)
		if e != api.OK || e2 != api.OK {
			t.Fatalf("First and Choices of %s: %d, %d", text(d.m), e, e2)
		}
		order := slices.Compare(slices.Concat(warp, weft), slices.Concat(d.warp, d.weft))
		if order > 0 {
			t.Fatalf("First of %s: %v, %v do not come before %v, %v", text(d.m), warp, weft, d.warp, d.weft)
		}
		if order < 0 {
			earlier++
		}
		wantAmong(t, ends, d.warp)
		wantAmong(t, picks, d.weft)
	})
	if earlier < 100 {
		t.Errorf("%d first colours differ from those of the cloth", earlier)
	}
}

// wantAmong checks that each thread has one of its choices.
func wantAmong(t *testing.T, choices [][]int, l []int) {
	t.Helper()
	if len(choices) != len(l) {
		t.Fatalf("%v has no choices of %v", choices, l)
	}
	for i, c := range l {
		if !slices.Contains(choices[i], c) {
			t.Fatalf("%d is no choice of the thread %d: %v", c, i, choices[i])
		}
	}
}

// P15.4: the first colours have a choice of each end and pick, for the first end
// the first one; they fit the image, so that there is a grid that shows it.
func TestFirstAreChoices(t *testing.T) {
	for _, m := range fitting(t) {
		warp, weft, _ := picture.First(m)
		ends, picks, _ := picture.Choices(m)
		wantAmong(t, ends, warp)
		wantAmong(t, picks, weft)
		if warp[0] != ends[0][0] {
			t.Fatalf("%s: %d is not the first one of %v", text(m), warp[0], ends[0])
		}
		for _, l := range slices.Concat(ends, picks) {
			if !slices.IsSorted(l) || len(slices.Compact(slices.Clone(l))) != len(l) || len(l) == 0 {
				t.Fatalf("%s: the choices %v", text(m), l)
			}
		}
		d := dyed{m, warp, weft}
		g, e := picture.Weave(m, warp, weft, random(m.W, m.H, 8))
		if e != api.OK {
			t.Fatalf("Weave of %v: %d", d, e)
		}
		wantShows(t, g, d, true, api.OK)
		if seen := front(t, g, warp, weft); !colour.Same(seen, m) {
			t.Fatalf("%v: the grid shows %v", d, seen)
		}
	}
}

// P15.4: if colours fit an image, they fit it turned, exchanged.
func TestTurnedFits(t *testing.T) {
	for _, m := range fitting(t) {
		ends, picks, _ := picture.Choices(m)
		warp, weft, _ := picture.First(m)
		turned, _ := colour.Turn(m)
		wantChoices(t, turned, picks, ends)
		up, free, e := picture.Cells(turned, weft, warp)
		if either, _ := grid.Or(up, free); e != api.OK || either.W != m.H || either.H != m.W {
			t.Fatalf("Cells of %s, turned: %v, %d", text(m), up, e)
		}
	}
	none := 0
	for _, m := range allImages(3, 3, 0, 1, 2) {
		if _, _, e := picture.First(m); e == api.ErrNone {
			turned, _ := colour.Turn(m)
			wantNoFit(t, turned, api.ErrNone)
			none++
		}
	}
	if none < 100 {
		t.Errorf("no colours fit %d images", none)
	}
}
