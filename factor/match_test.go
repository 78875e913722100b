package factor_test

import (
	"slices"
	"testing"

	"raddle/api"
	"raddle/draft"
	"raddle/factor"
	"raddle/grid"
)

// whole returns a draft of these sizes.
func whole(shafts, treadles, ends, picks int) api.Draft {
	v := mixed(1000, shafts*treadles)
	return api.Draft{
		Shafts: shafts, Treadles: treadles, Thread: mixed(shafts, ends), Tread: mixed(treadles, picks),
		Tie: build(treadles, shafts, func(x, y int) bool { return v[y*treadles+x]%7 < 3 }),
	}
}

// used returns a draft of these sizes in which all shafts and treadles are.
func used(shafts, treadles, ends, picks int) api.Draft {
	d := whole(shafts, treadles, ends, picks)
	d.Thread, d.Tread = places(ends, shafts), places(picks, treadles)
	return d
}

// lists returns all lists of numbers below n, with up to most elements.
func lists(n, most int) [][]int {
	l := [][]int{nil}
	for i := 0; len(l[i]) < most; i++ {
		for v := range n {
			l = append(l, append(slices.Clone(l[i]), v))
		}
	}
	return l[1:]
}

// allDrafts returns all drafts of these sizes, with up to most ends and picks.
func allDrafts(shafts, treadles, most int) []api.Draft {
	var l []api.Draft
	for _, thread := range lists(shafts, most) {
		for _, tread := range lists(treadles, most) {
			for v := range 1 << (shafts * treadles) {
				l = append(l, api.Draft{
					Shafts: shafts, Treadles: treadles, Thread: slices.Clone(thread), Tread: slices.Clone(tread),
					Tie: build(treadles, shafts, func(x, y int) bool { return v>>(y*treadles+x)&1 == 1 }),
				})
			}
		}
	}
	return l
}

// fewDrafts returns all drafts of up to two shafts, treadles, ends and picks.
func fewDrafts() []api.Draft {
	return slices.Concat(allDrafts(1, 1, 2), allDrafts(1, 2, 2), allDrafts(2, 1, 2), allDrafts(2, 2, 2))
}

// sizedDrafts returns drafts of many sizes, the least and the greatest ones
// too.
func sizedDrafts() []api.Draft {
	var l []api.Draft
	for _, n := range [][4]int{
		{1, 1, 1, 1}, {1, 1, 64, 64}, {40, 40, 64, 64}, {40, 40, 40, 40}, {3, 4, 3, 4}, {4, 6, 16, 20},
		{8, 5, 30, 7}, {39, 40, 63, 64}, {2, 9, 64, 9}, {9, 2, 9, 64}, {1, 40, 1, 64}, {40, 1, 64, 1},
	} {
		l = append(l, whole(n[0], n[1], n[2], n[3]), used(n[0], n[1], n[2], n[3]))
	}
	return l
}

// drafts returns valid drafts of all sorts, some of them least.
func drafts() []api.Draft {
	return slices.Concat(fewDrafts(), allDrafts(3, 2, 3), allDrafts(2, 3, 3), sizedDrafts())
}

// isUsed tells whether all shafts and treadles are in the lists of a draft.
func isUsed(d api.Draft) bool {
	for s := range d.Shafts {
		if !slices.Contains(d.Thread, s) {
			return false
		}
	}
	for v := range d.Treadles {
		if !slices.Contains(d.Tread, v) {
			return false
		}
	}
	return true
}

// isLeast goes by the definition, part by part.
func isLeast(d api.Draft) bool {
	_, shafts := numbered(texts(d.Shafts, func(s int) string { return row(d.Tie, s) }))
	_, treadles := numbered(texts(d.Treadles, func(v int) string { return column(d.Tie, v) }))
	return isUsed(d) && shafts == d.Shafts && treadles == d.Treadles
}

// wantMatch fails unless there is a match, which renumbers a to b.
func wantMatch(t *testing.T, a, b api.Draft) {
	t.Helper()
	shafts, treadles, e := factor.Match(a, b)
	if e != api.OK {
		t.Fatalf("Match of %v and %v: %d", a, b, e)
	}
	r, e := draft.Renumber(a, shafts, treadles)
	wantDraft(t, "renumbered by the match", r, e, b)
}

// wantNoMatch fails unless there is this error, and no lists.
func wantNoMatch(t *testing.T, a, b api.Draft, want api.Errno) {
	t.Helper()
	shafts, treadles, e := factor.Match(a, b)
	if e != want || shafts != nil || treadles != nil {
		t.Fatalf("Match of %v and %v: %v, %v, %d, want %d", a, b, shafts, treadles, e, want)
	}
}

// P4.3
func TestLeast(t *testing.T) {
	for _, d := range drafts() {
		if is, e := factor.Least(d); is != isLeast(d) || e != api.OK {
			t.Fatalf("Least of %v: %v, %d", d, is, e)
		}
	}
}

// P4.3: a draft that is least, and for each reason drafts that are not.
func TestLeastReasons(t *testing.T) {
	list := func(v ...int) []int { return v }
	for _, k := range []struct {
		thread, tread []int
		tie           string
		want          bool
	}{
		{list(0, 1, 2), list(0, 1, 2), "..x\n.x.\nx..\n", true},
		{list(2, 0, 1, 0), list(1, 1, 2, 0), "..x\n.x.\nx..\n", true},
		{list(0, 1, 2), list(0, 1, 2), "...\n.xx\n..x\n", true},
		{list(0), list(0), "x\n", true},
		{list(0, 0), list(0, 0, 0), ".\n", true},
		{list(0, 1), list(0), "x\n.\n", true},
		{list(0), list(1, 0), "x.\n", true},
		// A shaft that is not used: the first, the middle and the last one.
		{list(1, 2, 1), list(0, 1, 2), "..x\n.x.\nx..\n", false},
		{list(0, 2), list(0, 1, 2), "..x\n.x.\nx..\n", false},
		{list(0, 1), list(0, 1, 2), "..x\n.x.\nx..\n", false},
		// A treadle that is not used.
		{list(0, 1, 2), list(2, 1), "..x\n.x.\nx..\n", false},
		{list(0, 1, 2), list(0, 2, 0), "..x\n.x.\nx..\n", false},
		{list(0, 1, 2), list(1, 0), "..x\n.x.\nx..\n", false},
		// Two shafts that the same treadles lift.
		{list(0, 1, 2), list(0, 1), "x.\n.x\nx.\n", false},
		{list(0, 1), list(0), "x\nx\n", false},
		{list(0, 1), list(0, 1), "..\n..\n", false},
		// Two treadles that lift the same shafts.
		{list(0, 1), list(0, 1, 2), "x.x\n.x.\n", false},
		{list(0), list(0, 1), "xx\n", false},
		// Shafts that differ by a treadle alone that is not used.
		{list(0, 1), list(0, 0), "x.\nxx\n", false},
		{list(0, 0), list(0, 1), "x.\nxx\n", false},
	} {
		tie := read(t, k.tie)
		d := api.Draft{Shafts: tie.H, Treadles: tie.W, Thread: k.thread, Tread: k.tread, Tie: tie}
		if is, e := factor.Least(d); is != k.want || e != api.OK || isLeast(d) != k.want {
			t.Errorf("Least of %v: %v, %d, want %v", d, is, e, k.want)
		}
	}
}

// P4.3: drafts with shafts and treadles in another order.
func TestMatch(t *testing.T) {
	for _, d := range drafts() {
		shafts, treadles := shuffled(d.Shafts), shuffled(d.Treadles)
		r, e := draft.Renumber(d, shafts, treadles)
		if e != api.OK {
			t.Fatal(d, e)
		}
		if !isUsed(d) {
			wantNoMatch(t, d, r, api.ErrArg)
			continue
		}
		s, v, e := factor.Match(d, r)
		if e != api.OK || !slices.Equal(s, shafts) || !slices.Equal(v, treadles) {
			t.Fatalf("Match of %v and %v: %v, %v, %d, want %v and %v", d, r, s, v, e, shafts, treadles)
		}
		wantMatch(t, r, d)
		s, v, e = factor.Match(d, d)
		if e != api.OK || !slices.Equal(s, numbers(d.Shafts)) || !slices.Equal(v, numbers(d.Treadles)) {
			t.Fatalf("Match of %v and itself: %v, %v, %d", d, s, v, e)
		}
	}
}

// P4.3: three numbers go around, so the way there is not the way back.
func TestMatchAround(t *testing.T) {
	a := api.Draft{
		Shafts: 3, Treadles: 2, Thread: []int{0, 1, 2, 1}, Tread: []int{1, 0}, Tie: read(t, "xx\n.x\nx.\n"),
	}
	b := api.Draft{
		Shafts: 3, Treadles: 2, Thread: []int{1, 2, 0, 2}, Tread: []int{0, 1}, Tie: read(t, "x.\n.x\nxx\n"),
	}
	s, v, e := factor.Match(a, b)
	if e != api.OK || !slices.Equal(s, []int{1, 2, 0}) || !slices.Equal(v, []int{1, 0}) {
		t.Errorf("Match: %v, %v, %d", s, v, e)
	}
	s, v, e = factor.Match(b, a)
	if e != api.OK || !slices.Equal(s, []int{2, 0, 1}) || !slices.Equal(v, []int{1, 0}) {
		t.Errorf("Match the other way: %v, %v, %d", s, v, e)
	}
}

// P4.3: of all few drafts, those that some orders renumber match, and others
// do not.
func TestMatchOfAll(t *testing.T) {
	orders := map[int][][]int{1: {{0}}, 2: {{0, 1}, {1, 0}}}
	for _, a := range fewDrafts() {
		for _, b := range fewDrafts() {
			if !isUsed(a) || !isUsed(b) {
				wantNoMatch(t, a, b, api.ErrArg)
				continue
			}
			found := 0
			for _, shafts := range orders[a.Shafts] {
				for _, treadles := range orders[a.Treadles] {
					if r, e := draft.Renumber(a, shafts, treadles); e == api.OK && draft.Same(r, b) {
						found++
					}
				}
			}
			if found > 1 {
				t.Fatalf("%v and %v have %d matches", a, b, found)
			}
			if found == 1 {
				wantMatch(t, a, b)
			} else {
				wantNoMatch(t, a, b, api.ErrNone)
			}
		}
	}
}

// P4.3: each part of a draft has to fit.
func TestNoMatch(t *testing.T) {
	for _, n := range [][4]int{{2, 3, 5, 6}, {4, 4, 8, 8}, {40, 40, 62, 62}, {3, 2, 10, 3}} {
		a := used(n[0], n[1], n[2], n[3])
		for i, change := range []func(d *api.Draft){
			func(d *api.Draft) { d.Thread = append(d.Thread, 0) },
			func(d *api.Draft) { d.Tread = append(d.Tread, 0) },
			func(d *api.Draft) { d.Tie.Bits[0] = !d.Tie.Bits[0] },
			func(d *api.Draft) { d.Tie.Bits[len(d.Tie.Bits)-1] = !d.Tie.Bits[len(d.Tie.Bits)-1] },
			func(d *api.Draft) { exchange(d.Thread) },
			func(d *api.Draft) { exchange(d.Tread) },
		} {
			b := used(n[0], n[1], n[2], n[3])
			change(&b)
			if draft.Check(b) != api.OK || !isUsed(b) || draft.Same(a, b) {
				t.Fatalf("the change %d makes %v", i, b)
			}
			wantNoMatch(t, a, b, api.ErrNone)
			wantNoMatch(t, b, a, api.ErrNone)
		}
	}
}

// exchange changes a list in two neighbours of which others are the same.
func exchange(l []int) {
	for i := range len(l) - 1 {
		if l[i] != l[i+1] && (slices.Contains(l[:i], l[i]) || slices.Contains(l[i+2:], l[i]) ||
			slices.Contains(l[:i], l[i+1]) || slices.Contains(l[i+2:], l[i+1])) {
			l[i], l[i+1] = l[i+1], l[i]
			return
		}
	}
}

// split returns a draft that weaves the same with a shaft more, which takes
// the first end of those on a shaft with several.
func split(d api.Draft) api.Draft {
	for x, s := range d.Thread {
		if slices.Contains(d.Thread[x+1:], s) {
			d.Thread = slices.Clone(d.Thread)
			d.Thread[x] = d.Shafts
			d.Tie.Bits = append(slices.Clone(d.Tie.Bits), d.Tie.Bits[s*d.Treadles:(s+1)*d.Treadles]...)
			d.Tie.H++
			d.Shafts++
			return d
		}
	}
	return d
}

// P4.3: drafts that weave the same have no match if one has a shaft or a
// treadle more.
func TestMatchOfSplit(t *testing.T) {
	for _, n := range [][4]int{{1, 1, 2, 2}, {4, 5, 9, 8}, {39, 39, 64, 64}} {
		d := used(n[0], n[1], n[2], n[3])
		turned, _ := draft.Turn(d)
		back, _ := draft.Turn(split(turned))
		for _, more := range []api.Draft{split(d), back} {
			if draft.Same(more, d) || !isUsed(more) || !grid.Same(weave(t, d), weave(t, more)) {
				t.Fatalf("%v split is %v", d, more)
			}
			wantNoMatch(t, d, more, api.ErrNone)
			wantNoMatch(t, more, d, api.ErrNone)
		}
	}
}

// P4.3: a draft with a shaft that is not used has no match to ask for, until
// it is pruned.
func TestMatchPruned(t *testing.T) {
	d := used(4, 5, 9, 8)
	spare := d
	spare.Shafts++
	spare.Tie = build(d.Treadles, d.Shafts+1, func(x, y int) bool { return y < d.Shafts && up(d.Tie, x, y) })
	wantNoMatch(t, d, spare, api.ErrArg)
	wantNoMatch(t, spare, d, api.ErrArg)
	wantNoMatch(t, spare, spare, api.ErrArg)
	pruned, e := draft.Prune(spare)
	wantDraft(t, "pruned", pruned, e, d)
	wantMatch(t, d, pruned)
}

// P4.3: an unused shaft or treadle of either draft comes before what does not
// fit, wherever it is.
func TestMatchUnused(t *testing.T) {
	fine, other := used(3, 4, 6, 7), used(2, 2, 3, 3)
	for v := range 4 {
		unused := fine
		if v < 3 {
			unused.Thread = slices.Repeat([]int{(v + 1) % 3, (v + 2) % 3}, 3)
			wantNoMatch(t, unused, fine, api.ErrArg)
			wantNoMatch(t, fine, unused, api.ErrArg)
			wantNoMatch(t, unused, other, api.ErrArg)
			wantNoMatch(t, other, unused, api.ErrArg)
		}
		unused = fine
		unused.Tread = slices.Repeat([]int{(v + 1) % 4, (v + 2) % 4, (v + 3) % 4}, 2)
		wantNoMatch(t, unused, fine, api.ErrArg)
		wantNoMatch(t, fine, unused, api.ErrArg)
		wantNoMatch(t, unused, other, api.ErrArg)
		wantNoMatch(t, other, unused, api.ErrArg)
		wantNoMatch(t, unused, unused, api.ErrArg)
	}
}
