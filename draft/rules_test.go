package draft_test

import (
	"math"
	"slices"
	"testing"

	"raddle/api"
	"raddle/draft"
)

// call is a function of the package with its other arguments set.
type call struct {
	name string
	do   func(d api.Draft) (api.Draft, api.Errno)
}

// makers returns the functions that make a draft of one, where they succeed.
func makers() []call {
	return []call{
		{"Turn", draft.Turn},
		{"Prune", draft.Prune},
		{"Renumber", func(d api.Draft) (api.Draft, api.Errno) {
			return draft.Renumber(d, numbers(d.Shafts), numbers(d.Treadles))
		}},
	}
}

// numbers returns all numbers below n, for any n.
func numbers(n int) []int { return count(min(max(n, 0), 100)) }

// misuses returns calls that are wrong for any draft.
func misuses() []call {
	return []call{
		{"Renumber by nothing", func(d api.Draft) (api.Draft, api.Errno) { return draft.Renumber(d, nil, nil) }},
		{"Renumber the shafts alone", func(d api.Draft) (api.Draft, api.Errno) {
			return draft.Renumber(d, numbers(d.Shafts), []int{})
		}},
		{"Renumber the treadles alone", func(d api.Draft) (api.Draft, api.Errno) {
			return draft.Renumber(d, []int{-1}, numbers(d.Treadles))
		}},
	}
}

// invalid returns drafts with the errors that Check returns for them.
func invalid() map[api.Errno][]api.Draft {
	change := func(change func(d *api.Draft)) api.Draft {
		d := whole(4, 5, 6, 7)
		change(&d)
		return d
	}
	return map[api.Errno][]api.Draft{
		api.ErrMany: {
			whole(41, 1, 1, 1), whole(1, 41, 1, 1), whole(1, 1, 65, 1), whole(1, 1, 1, 65), whole(64, 64, 65, 65),
			{Shafts: math.MaxInt, Treadles: math.MinInt}, {Shafts: -1, Treadles: 41}, {Thread: make([]int, 65)},
			change(func(d *api.Draft) { d.Shafts = 41 }), change(func(d *api.Draft) { d.Treadles = math.MaxInt }),
		},
		api.ErrBad: {
			{}, {Shafts: 1, Treadles: 1}, {Shafts: math.MinInt, Treadles: math.MinInt},
			change(func(d *api.Draft) { d.Shafts = 0 }), change(func(d *api.Draft) { d.Treadles = 0 }),
			change(func(d *api.Draft) { d.Shafts = 5 }), change(func(d *api.Draft) { d.Treadles = 4 }),
			change(func(d *api.Draft) { d.Thread = nil }), change(func(d *api.Draft) { d.Tread = nil }),
			change(func(d *api.Draft) { d.Thread[5] = 4 }), change(func(d *api.Draft) { d.Tread[6] = 5 }),
			change(func(d *api.Draft) { d.Thread[0] = -1 }), change(func(d *api.Draft) { d.Tread[0] = -1 }),
			change(func(d *api.Draft) { d.Thread[0] = math.MaxInt }), change(func(d *api.Draft) { d.Tread[0] = math.MinInt }),
			change(func(d *api.Draft) { d.Tie = api.Grid{} }), change(func(d *api.Draft) { d.Tie.Bits = nil }),
			change(func(d *api.Draft) { d.Tie.Bits = d.Tie.Bits[:19] }), change(func(d *api.Draft) { d.Tie = pattern(4, 5) }),
			change(func(d *api.Draft) { d.Tie = api.Grid{W: 65, H: 65} }),
		},
	}
}

// R1, R7: the error of Check comes first, with no other result.
func TestErrorOfCheckFirst(t *testing.T) {
	for want, l := range invalid() {
		for _, d := range l {
			if e := draft.Check(d); e != want {
				t.Errorf("Check(%v): %d, want %d", d, e, want)
			}
			for _, f := range []func(d api.Draft) (api.Grid, api.Errno){draft.Weave, draft.Lift} {
				if g, e := f(d); e != want || g.W != 0 || g.H != 0 || g.Bits != nil {
					t.Errorf("a grid of %v: %v, %d, want %d", d, g, e, want)
				}
			}
			for _, c := range append(makers(), misuses()...) {
				r, e := c.do(d)
				wantError(t, c.name, r, e, want)
			}
		}
	}
	for _, d := range samples() {
		for _, c := range misuses() {
			r, e := c.do(d)
			wantError(t, c.name, r, e, api.ErrArg)
		}
	}
}

// memory is what the lists of a draft are the fronts of.
type memory struct {
	thread, tread []int
	bits          []bool
}

// spare returns a copy of a draft whose memory goes on behind its lists, and
// that memory.
func spare(d api.Draft, fill bool) (api.Draft, memory) {
	m := memory{
		slices.Concat(d.Thread, slices.Repeat([]int{77}, 100)),
		slices.Concat(d.Tread, slices.Repeat([]int{77}, 100)),
		slices.Concat(d.Tie.Bits, slices.Repeat([]bool{fill}, 2000)),
	}
	d.Thread, d.Tread = m.thread[:len(d.Thread)], m.tread[:len(d.Tread)]
	d.Tie.Bits = m.bits[:len(d.Tie.Bits)]
	return d, m
}

func (m memory) clone() memory {
	return memory{slices.Clone(m.thread), slices.Clone(m.tread), slices.Clone(m.bits)}
}

func (m memory) equals(o memory) bool {
	return slices.Equal(m.thread, o.thread) && slices.Equal(m.tread, o.tread) && slices.Equal(m.bits, o.bits)
}

// list is a list whose memory goes on behind its elements.
func list(l []int) []int { return slices.Concat(l, slices.Repeat([]int{77}, 100))[:len(l)] }

// R2: the arguments stay as they are, with the memory behind them.
func TestArgumentsStay(t *testing.T) {
	drafts := samples()
	for _, l := range invalid() {
		drafts = append(drafts, l...)
	}
	for _, d := range drafts {
		for _, fill := range []bool{false, true} {
			d, m := spare(d, fill)
			before := m.clone()
			for _, c := range append(makers(), misuses()...) {
				c.do(d)
			}
			draft.Check(d)
			draft.Weave(d)
			draft.Lift(d)
			draft.Same(d, d)
			draft.FromLift(d.Thread, d.Tie)
			if !m.equals(before) {
				t.Fatalf("the argument %v was changed", d)
			}
		}
		shafts, treadles := list(shuffled(len(numbers(d.Shafts)))), list(shuffled(len(numbers(d.Treadles))))
		all := slices.Concat(shafts[:cap(shafts)], treadles[:cap(treadles)])
		draft.Renumber(d, shafts, treadles)
		if !slices.Equal(all, slices.Concat(shafts[:cap(shafts)], treadles[:cap(treadles)])) {
			t.Fatalf("the lists for %v were changed", d)
		}
	}
}

// spoil changes all memory of a draft.
func spoil(d api.Draft) {
	for _, l := range [][]int{d.Thread, d.Tread} {
		l = l[:cap(l)]
		for i := range l {
			l[i] = 99
		}
	}
	bits := d.Tie.Bits[:cap(d.Tie.Bits)]
	for i := range bits {
		bits[i] = !bits[i]
	}
}

// R2: a result can be changed without effect on arguments or other results.
func TestResultsAreNewMemory(t *testing.T) {
	for _, sample := range samples() {
		d, m := spare(sample, false)
		before := m.clone()
		lift := cloth(t)(draft.Lift(d))
		kept := slices.Clone(lift.Bits)
		for _, c := range append(makers(), call{"FromLift", func(d api.Draft) (api.Draft, api.Errno) {
			return draft.FromLift(d.Thread, lift)
		}}) {
			first, second := must(t)(c.do(d)), must(t)(c.do(d))
			third, _ := spare(second, false)
			spoil(first)
			if !m.equals(before) || !slices.Equal(lift.Bits, kept) || !draft.Same(second, third) {
				t.Fatalf("%s of %v shares its memory", c.name, d)
			}
			again, e := c.do(d)
			wantDraft(t, c.name+" again", again, e, third)
		}
		for _, f := range []func(d api.Draft) (api.Grid, api.Errno){draft.Weave, draft.Lift} {
			first, second := cloth(t)(f(d)), cloth(t)(f(d))
			kept := slices.Clone(second.Bits)
			spoil(api.Draft{Tie: first})
			if !m.equals(before) || !slices.Equal(second.Bits, kept) {
				t.Fatalf("a grid of %v shares its memory", d)
			}
		}
	}
}

// R2: the lists of a result are apart, even if those of the argument are not.
func TestListsOfResultsAreApart(t *testing.T) {
	for _, n := range []int{1, 3, 40} {
		l := mixed(n, 40)
		d := api.Draft{Shafts: n, Treadles: n, Thread: l, Tread: l, Tie: pattern(n, n)}
		for _, c := range makers() {
			r := must(t)(c.do(d))
			kept := slices.Clone(r.Tread)
			spoil(api.Draft{Thread: r.Thread})
			if !slices.Equal(r.Tread, kept) {
				t.Fatalf("the lists of %s share their memory", c.name)
			}
		}
		shared := count(n)
		r := must(t)(draft.Renumber(d, shared, shared))
		spoil(r)
		if !slices.Equal(shared, count(n)) || !slices.Equal(l, mixed(n, 40)) {
			t.Fatal("Renumber shares its memory with its lists")
		}
	}
}

// R7: no call panics, whatever its arguments are.
func TestNoPanic(t *testing.T) {
	drafts := samples()
	for _, l := range invalid() {
		drafts = append(drafts, l...)
	}
	sizes := []int{math.MinInt, -1, 0, 1, 2, 40, 41, 64, 65, math.MaxInt}
	for _, a := range sizes {
		for _, b := range sizes {
			for _, c := range sizes {
				drafts = append(drafts, api.Draft{
					Shafts: a, Treadles: b, Thread: []int{0, c}, Tread: []int{c}, Tie: api.Grid{W: b, H: a, Bits: make([]bool, 2)},
				})
			}
		}
	}
	for _, d := range drafts {
		for _, c := range append(makers(), misuses()...) {
			c.do(d)
		}
		draft.Weave(d)
		draft.Lift(d)
		draft.FromLift(d.Thread, d.Tie)
		draft.FromLift(d.Tread, d.Tie)
		draft.Same(d, drafts[0])
		for _, n := range sizes {
			draft.Renumber(d, []int{0, n}, []int{n})
			draft.Renumber(d, numbers(n), numbers(n))
		}
	}
}
