package thread_test

import (
	"math"
	"slices"
	"testing"

	"raddle/api"
	"raddle/thread"
)

// call is a function of the package with its other arguments set.
type call struct {
	name string
	do   func(l []int) ([]int, api.Errno)
}

// makers returns the functions that make a list of one, where they succeed.
func makers() []call {
	return []call{
		{"Renumber", thread.Renumber},
		{"Match", func(l []int) ([]int, api.Errno) { return thread.Match(l, l) }},
		{"Join the empty list", func(l []int) ([]int, api.Errno) { return thread.Join(l, nil) }},
		{"Join to the empty list", func(l []int) ([]int, api.Errno) { return thread.Join([]int{}, l) }},
		{"Tile", func(l []int) ([]int, api.Errno) { return thread.Tile(l, 1) }},
		{"Reverse", thread.Reverse},
	}
}

// misuses returns calls that are wrong for any list that is not empty.
func misuses() []call {
	return []call{
		{"Tile", func(l []int) ([]int, api.Errno) { return thread.Tile(l, -1) }},
		{"Match the empty list", func(l []int) ([]int, api.Errno) { return thread.Match(l, nil) }},
	}
}

// invalid returns lists with the errors that Check returns for them.
func invalid() map[api.Errno][][]int {
	return map[api.Errno][][]int{
		api.ErrMany: {make([]int, 401), slices.Repeat([]int{-1}, 401), make([]int, 5000)},
		api.ErrBad: {
			{-1}, {400}, {0, 1, -1}, {400, 0}, {math.MinInt}, {math.MaxInt}, {0, math.MaxInt, 0},
			append(make([]int, 399), 400),
		},
	}
}

// R1, R7: the error of Check comes first, with no other result.
func TestErrorOfCheckFirst(t *testing.T) {
	for want, lists := range invalid() {
		for _, l := range lists {
			if e := thread.Check(l); e != want {
				t.Errorf("Check: %d, want %d", e, want)
			}
			if s, e := thread.Text(l); s != "" || e != want {
				t.Errorf("Text: %q, %d, want %d", s, e, want)
			}
			if n, e := thread.Used(l); n != 0 || e != want {
				t.Errorf("Used: %d, %d, want %d", n, e, want)
			}
			for _, c := range append(makers(), misuses()...) {
				r, e := c.do(l)
				wantError(t, c.name, r, e, want)
			}
		}
	}
}

// R1: the first list's error comes before the second one's, and this one
// before that of lengths that differ or are too great together.
func TestErrorsOfTwoLists(t *testing.T) {
	many, bad, fine := make([]int, 401), []int{-1, 400}, count(400)
	for _, k := range []struct {
		a, b []int
		want api.Errno
	}{
		{many, bad, api.ErrMany}, {bad, many, api.ErrBad}, {many, many, api.ErrMany}, {bad, bad, api.ErrBad},
		{fine, many, api.ErrMany}, {fine, bad, api.ErrBad}, {many, fine, api.ErrMany}, {bad, fine, api.ErrBad},
		{nil, many, api.ErrMany}, {nil, bad, api.ErrBad}, {many, nil, api.ErrMany}, {bad, nil, api.ErrBad},
	} {
		l, e := thread.Match(k.a, k.b)
		wantError(t, "Match", l, e, k.want)
		l, e = thread.Join(k.a, k.b)
		wantError(t, "Join", l, e, k.want)
	}
	l, e := thread.Match(fine, []int{0, 0})
	wantError(t, "Match of other lengths", l, e, api.ErrArg)
	l, e = thread.Join(fine, []int{0})
	wantError(t, "Join", l, e, api.ErrMany)
}

// spare returns a copy of a list whose memory goes on behind its elements,
// and that memory.
func spare(l []int) (part, all []int) {
	all = slices.Concat(l, slices.Repeat([]int{77}, 500))
	return all[:len(l)], all
}

// R2: the arguments stay as they are, with the memory behind them.
func TestArgumentsStay(t *testing.T) {
	for _, sample := range append(samples(), []int{-1}, make([]int, 401)) {
		l, all := spare(sample)
		before := slices.Clone(all)
		for _, c := range append(makers(), misuses()...) {
			c.do(l)
		}
		thread.Check(l)
		thread.Text(l)
		thread.Used(l)
		thread.Join(l, []int{5})
		thread.Join(l, l)
		thread.Tile(l, 2)
		if !slices.Equal(all, before) {
			t.Fatalf("an argument of %d elements was changed", len(l))
		}
	}
}

// R2: a result can be changed without effect on arguments or other results.
func TestResultsAreNewMemory(t *testing.T) {
	makers := append(makers(),
		call{"Parse", func(l []int) ([]int, api.Errno) {
			s, _ := thread.Text(l)
			return thread.Parse(s)
		}},
		call{"Straight", func(l []int) ([]int, api.Errno) { return thread.Straight(3, len(l)) }},
		call{"Pointed", func(l []int) ([]int, api.Errno) { return thread.Pointed(3, len(l)) }})
	for _, sample := range samples() {
		l, all := spare(sample)
		before := slices.Clone(all)
		for _, c := range makers {
			first, e := c.do(l)
			second, f := c.do(l)
			if e != api.OK || f != api.OK {
				t.Fatalf("%s: %d, %d", c.name, e, f)
			}
			kept := slices.Clone(second)
			first = first[:cap(first)]
			for i := range first {
				first[i] = 99
			}
			if !slices.Equal(all, before) || !slices.Equal(second, kept) {
				t.Fatalf("%s shares its memory", c.name)
			}
			if third, _ := c.do(l); !slices.Equal(third, kept) {
				t.Fatalf("%s keeps something", c.name)
			}
		}
	}
}

// R7: no call panics, whatever its arguments are.
func TestNoPanic(t *testing.T) {
	numbers := []int{math.MinInt, -401, -400, -1, 0, 1, 2, 399, 400, 401, math.MaxInt}
	lists := samples()
	for _, l := range invalid() {
		lists = append(lists, l...)
	}
	for _, a := range lists {
		for _, b := range lists {
			thread.Match(a, b)
			thread.Join(a, b)
		}
		for _, n := range numbers {
			thread.Tile(a, n)
		}
	}
	for _, n := range numbers {
		for _, length := range numbers {
			thread.Straight(n, length)
			thread.Pointed(n, length)
		}
	}
}
