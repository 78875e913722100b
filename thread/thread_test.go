package thread_test

import (
	"math"
	"slices"
	"strconv"
	"strings"
	"testing"

	"raddle/api"
	"raddle/thread"
)

// must returns a list that comes without an error.
func must(t *testing.T) func([]int, api.Errno) []int {
	return func(l []int, e api.Errno) []int {
		t.Helper()
		if e != api.OK {
			t.Fatalf("error %d", e)
		}
		if f := thread.Check(l); f != api.OK {
			t.Fatalf("the result %v is not valid: %d", l, f)
		}
		return l
	}
}

// count returns the list of 0, 1 and so on.
func count(length int) []int {
	l := make([]int, length)
	for i := range l {
		l[i] = i
	}
	return l
}

// mixed returns a list of numbers up to n in no order.
func mixed(n, length int) []int {
	l := make([]int, length)
	seed := uint32(n*1000 + length)
	for i := range l {
		seed = seed*1664525 + 1013904223
		l[i] = int(seed>>8) % n
	}
	return l
}

// samples returns valid lists, the longest ones and the empty ones too.
func samples() [][]int {
	l := [][]int{
		nil, {}, {0}, {399}, {0, 0}, {0, 399}, {399, 0}, {7, 3, 7, 0}, {1, 5, 1, 4},
		count(399), count(400), slices.Repeat([]int{0}, 400), slices.Repeat([]int{399}, 400),
	}
	for _, n := range []int{1, 2, 3, 10, 40, 400} {
		for _, length := range []int{1, 2, 3, 9, 100, 200, 399, 400} {
			l = append(l, mixed(n, length))
		}
	}
	return l
}

// short returns all lists of up to most elements below n.
func short(n, most int) [][]int {
	l := [][]int{nil}
	for i := 0; i < len(l); i++ {
		if len(l[i]) == most {
			break
		}
		for v := range n {
			l = append(l, append(slices.Clone(l[i]), v))
		}
	}
	return l
}

// wantList fails unless the list comes without an error.
func wantList(t *testing.T, what string, l []int, e api.Errno, want []int) {
	t.Helper()
	if e != api.OK || !slices.Equal(l, want) {
		t.Fatalf("%s: %v, %d, want %v", what, l, e, want)
	}
}

// wantError fails unless the error comes without a list.
func wantError(t *testing.T, what string, l []int, e, want api.Errno) {
	t.Helper()
	if e != want || len(l) != 0 {
		t.Fatalf("%s: %v, %d, want the error %d", what, l, e, want)
	}
}

func TestExamples(t *testing.T) {
	if s, e := thread.Text([]int{0, 1, 9}); s != "1 2 10" || e != api.OK {
		t.Errorf("Text: %q, %d", s, e)
	}
	l, e := thread.Renumber([]int{7, 3, 7, 0})
	wantList(t, "Renumber", l, e, []int{0, 1, 0, 2})
	l, e = thread.Match([]int{7, 3, 7, 0}, []int{1, 5, 1, 4})
	wantList(t, "Match", l, e, []int{4, -1, -1, 5, -1, -1, -1, 1})
	l, e = thread.Pointed(3, 7)
	wantList(t, "Pointed", l, e, []int{0, 1, 2, 1, 0, 1, 2})
	for _, s := range []string{"0", "1  2", "01", "401"} {
		l, e = thread.Parse(s)
		wantError(t, "Parse "+s, l, e, api.ErrForm)
	}
}

// P2.1
func TestCheck(t *testing.T) {
	for _, k := range []struct {
		l    []int
		want api.Errno
	}{
		{nil, api.OK}, {[]int{}, api.OK}, {[]int{0}, api.OK}, {[]int{399}, api.OK},
		{[]int{0, 399, 0, 399}, api.OK}, {count(400), api.OK},
		{make([]int, 401), api.ErrMany}, {count(401), api.ErrMany}, {make([]int, 100000), api.ErrMany},
		{slices.Repeat([]int{-1}, 401), api.ErrMany},
		{[]int{-1}, api.ErrBad}, {[]int{400}, api.ErrBad}, {[]int{0, 0, -1}, api.ErrBad},
		{[]int{400, 0, 0}, api.ErrBad}, {[]int{0, 400, 0}, api.ErrBad},
		{[]int{math.MinInt}, api.ErrBad}, {[]int{math.MaxInt}, api.ErrBad},
		{append(make([]int, 399), 400), api.ErrBad}, {append(make([]int, 399), -1), api.ErrBad},
		{slices.Repeat([]int{400}, 400), api.ErrBad},
	} {
		if e := thread.Check(k.l); e != k.want {
			t.Errorf("Check of %d elements: %d, want %d", len(k.l), e, k.want)
		}
	}
}

// P2.1
func TestUsed(t *testing.T) {
	for _, l := range append(samples(), short(4, 5)...) {
		sorted := slices.Clone(l)
		slices.Sort(sorted)
		want := len(slices.Compact(sorted))
		if n, e := thread.Used(l); n != want || e != api.OK {
			t.Errorf("Used of %v: %d, %d, want %d", l, n, e, want)
		}
	}
	for want, l := range map[int][]int{0: nil, 1: {5, 5, 5}, 2: {399, 0, 399}, 400: count(400)} {
		if n, e := thread.Used(l); n != want || e != api.OK {
			t.Errorf("Used: %d, %d, want %d", n, e, want)
		}
	}
}

// P2.1
func TestText(t *testing.T) {
	for want, l := range map[string][]int{
		"": {}, "1": {0}, "400": {399}, "1 1": {0, 0}, "10 9 100 99": {9, 8, 99, 98}, "3 2 1": {2, 1, 0},
	} {
		if s, e := thread.Text(l); s != want || e != api.OK {
			t.Errorf("Text of %v: %q, %d, want %q", l, s, e, want)
		}
	}
	for _, l := range samples() {
		var words []string
		for _, v := range l {
			words = append(words, strconv.Itoa(v+1))
		}
		if s, e := thread.Text(l); s != strings.Join(words, " ") || e != api.OK {
			t.Errorf("Text of %v: %q, %d", l, s, e)
		}
	}
}

// P2.1: of all short strings, exactly the texts of the lists are read.
func TestParseAllShort(t *testing.T) {
	const letters, most = "0124 -+", 5
	texts := map[string][]int{}
	numbers := []int{}
	for v := range 400 {
		numbers = append(numbers, v)
	}
	var put func(l []int, length int)
	put = func(l []int, length int) {
		s, e := thread.Text(l)
		if e != api.OK || len(s) != length {
			t.Fatal(l, s, e)
		}
		texts[s] = l
		for _, v := range numbers {
			next := length + len(strconv.Itoa(v+1))
			if len(l) > 0 {
				next++
			}
			if next <= most {
				put(append(slices.Clone(l), v), next)
			}
		}
	}
	put(nil, 0)
	var visit func(s string)
	visit = func(s string) {
		l, e := thread.Parse(s)
		if want, ok := texts[s]; ok {
			wantList(t, "Parse "+strconv.Quote(s), l, e, want)
		} else {
			wantError(t, "Parse "+strconv.Quote(s), l, e, api.ErrForm)
		}
		if len(s) == most {
			return
		}
		for i := range len(letters) {
			visit(s + letters[i:i+1])
		}
	}
	visit("")
}

// P2.1
func TestParseForms(t *testing.T) {
	many := func(w string, n int) string { return strings.TrimSuffix(strings.Repeat(w+" ", n), " ") }
	l, e := thread.Parse("")
	wantList(t, "the empty text", l, e, nil)
	l, e = thread.Parse("400 1 10 399 100")
	wantList(t, "a text", l, e, []int{399, 0, 9, 398, 99})
	l, e = thread.Parse(many("400", 400))
	wantList(t, "the longest text", l, e, slices.Repeat([]int{399}, 400))
	for _, s := range []string{
		many("1", 401), many("400", 401), many("1", 400) + " ", many("1", 400) + " x", many("1", 100000),
		" ", "  ", " 1", "1 ", "1  2", "1\t2", "1\n2", "1\n", "1\r\n", "1\u00a02", "1,2", "1, 2",
		"0", "00", "01", "1 01", "1 0", "0400", "+1", "-1", "-0", "1.0", "1e2", "0x1", "1_0", "x", "1 x",
		"401", "1 401", "1000", "4000", "9223372036854775808", "18446744073709551617",
		"\u0661", "\uff11", "1\x00", "\xff", strings.Repeat("1", 1000000), strings.Repeat(" ", 1000000),
	} {
		l, e := thread.Parse(s)
		wantError(t, "Parse", l, e, api.ErrForm)
	}
}

// P2.2
func TestRenumber(t *testing.T) {
	for _, k := range [][2][]int{
		{nil, nil}, {{5}, {0}}, {{0}, {0}}, {{399, 399}, {0, 0}}, {{1, 0}, {0, 1}}, {{0, 2, 1, 2}, {0, 1, 2, 1}},
		{{9, 9, 4, 9, 4, 0, 399, 0}, {0, 0, 1, 0, 1, 2, 3, 2}},
	} {
		l, e := thread.Renumber(k[0])
		wantList(t, "Renumber", l, e, k[1])
	}
	for _, l := range append(samples(), short(4, 5)...) {
		want := make([]int, len(l))
		for i, v := range l {
			front := slices.Clone(l[:slices.Index(l, v)])
			slices.Sort(front)
			want[i] = len(slices.Compact(front))
		}
		r, e := thread.Renumber(l)
		wantList(t, "Renumber", r, e, want)
	}
}

// isMatch tells whether m is the match of two lists, as the document says it.
func isMatch(a, b, m []int) bool {
	length := 0
	if len(a) > 0 {
		length = slices.Max(a) + 1
	}
	if len(m) != length {
		return false
	}
	for i := range a {
		if m[a[i]] != b[i] {
			return false
		}
	}
	for k, v := range m {
		if (v == -1) == slices.Contains(a, k) || v != -1 && slices.Contains(m[k+1:], v) {
			return false
		}
	}
	return true
}

// P2.2, P2.5: two lists have a match exactly if the same renumbered list
// comes of both.
func TestMatchAllShort(t *testing.T) {
	lists := short(3, 4)
	for _, a := range lists {
		for _, b := range lists {
			m, e := thread.Match(a, b)
			if len(a) != len(b) {
				wantError(t, "other lengths", m, e, api.ErrArg)
				continue
			}
			same := slices.Equal(must(t)(thread.Renumber(a)), must(t)(thread.Renumber(b)))
			if !same {
				wantError(t, "no match", m, e, api.ErrNone)
			} else if e != api.OK || !isMatch(a, b, m) {
				t.Fatalf("Match(%v, %v): %v, %d", a, b, m, e)
			}
		}
	}
}

// P2.2, P2.5
func TestMatchLong(t *testing.T) {
	for _, a := range samples() {
		b := slices.Clone(a)
		for i, v := range b {
			b[i] = v * 7 % 400
		}
		for _, l := range [][]int{a, b, must(t)(thread.Renumber(a))} {
			if m, e := thread.Match(a, l); e != api.OK || !isMatch(a, l, m) {
				t.Fatalf("Match(%v, %v): %v, %d", a, l, m, e)
			}
		}
		if len(a) == 0 {
			continue
		}
		m, e := thread.Match(a, b[1:])
		wantError(t, "b shorter", m, e, api.ErrArg)
		m, e = thread.Match(a[1:], b)
		wantError(t, "a shorter", m, e, api.ErrArg)
	}
	for _, k := range [][2][]int{
		{{0, 1}, {5, 5}}, {{0, 0}, {5, 6}}, {{0, 1, 0}, {0, 1, 1}}, {count(400), make([]int, 400)},
		{make([]int, 400), append(make([]int, 399), 1)}, {append(make([]int, 399), 1), make([]int, 400)},
	} {
		m, e := thread.Match(k[0], k[1])
		wantError(t, "no match", m, e, api.ErrNone)
	}
}

// P2.3: the pointed list is walked here, by steps.
func TestStraightPointed(t *testing.T) {
	for _, n := range []int{1, 2, 3, 4, 5, 39, 40, 199, 200, 201, 399, 400} {
		for _, length := range []int{0, 1, 2, 3, 4, 5, 6, 7, 100, 399, 400} {
			straight, pointed := make([]int, length), make([]int, length)
			next, at, step := 0, 0, 1
			for i := range length {
				straight[i], pointed[i] = next, at
				if next++; next == n {
					next = 0
				}
				if at+step < 0 || at+step >= n {
					step = -step
				}
				if n > 1 {
					at += step
				}
			}
			l, e := thread.Straight(n, length)
			wantList(t, "Straight", l, e, straight)
			l, e = thread.Pointed(n, length)
			wantList(t, "Pointed", l, e, pointed)
		}
	}
}

// P2.3
func TestStraightPointedErrors(t *testing.T) {
	for _, k := range [][2]int{
		{0, 0}, {0, 5}, {-1, 5}, {401, 5}, {1, -1}, {400, -1}, {1, 401}, {400, 401}, {401, 401}, {0, -1},
		{math.MinInt, 1}, {math.MaxInt, 1}, {1, math.MinInt}, {1, math.MaxInt}, {math.MaxInt, math.MaxInt},
		{math.MinInt, math.MaxInt}, {math.MaxInt/2 + 2, 5},
	} {
		l, e := thread.Straight(k[0], k[1])
		wantError(t, "Straight", l, e, api.ErrArg)
		l, e = thread.Pointed(k[0], k[1])
		wantError(t, "Pointed", l, e, api.ErrArg)
	}
}

// P2.4
func TestJoin(t *testing.T) {
	for _, a := range samples() {
		for _, b := range samples() {
			l, e := thread.Join(a, b)
			if len(a)+len(b) > 400 {
				wantError(t, "Join", l, e, api.ErrMany)
			} else {
				wantList(t, "Join", l, e, append(slices.Clone(a), b...))
			}
		}
	}
	l, e := thread.Join([]int{1, 2}, []int{399, 0})
	wantList(t, "Join", l, e, []int{1, 2, 399, 0})
}

// P2.4
func TestTile(t *testing.T) {
	for _, l := range samples() {
		for _, times := range []int{0, 1, 2, 3, 4, 5, 100, 133, 134, 200, 201, 400, 401, 1000} {
			var want []int
			for range times {
				want = append(want, l...)
			}
			tiled, e := thread.Tile(l, times)
			if len(want) > 400 {
				wantError(t, "Tile", tiled, e, api.ErrMany)
			} else {
				wantList(t, "Tile", tiled, e, want)
			}
		}
		for _, times := range []int{-1, -2, math.MinInt, math.MinInt + 1} {
			tiled, e := thread.Tile(l, times)
			wantError(t, "Tile", tiled, e, api.ErrArg)
		}
	}
}

// P2.4: these products do not fit, and the empty list fits any number of
// times.
func TestTileFar(t *testing.T) {
	for _, times := range []int{math.MaxInt, math.MaxInt/2 + 1, math.MaxInt/2 + 2, 1 << 62, 1 << 56} {
		for _, l := range [][]int{{0}, {1, 2}, {1, 2, 3}, mixed(9, 256), count(400)} {
			tiled, e := thread.Tile(l, times)
			wantError(t, "Tile", tiled, e, api.ErrMany)
		}
		for _, l := range [][]int{nil, {}} {
			tiled, e := thread.Tile(l, times)
			wantList(t, "Tile", tiled, e, nil)
		}
	}
}

// P2.4
func TestReverse(t *testing.T) {
	for _, l := range append(samples(), short(3, 4)...) {
		want := slices.Clone(l)
		slices.Reverse(want)
		r, e := thread.Reverse(l)
		wantList(t, "Reverse", r, e, want)
	}
	l, e := thread.Reverse([]int{7, 3, 0})
	wantList(t, "Reverse", l, e, []int{0, 3, 7})
}

// P2.5
func TestConsequences(t *testing.T) {
	for _, l := range append(samples(), short(4, 5)...) {
		s, e := thread.Text(l)
		if e != api.OK {
			t.Fatal(l, e)
		}
		back, e := thread.Parse(s)
		wantList(t, "Parse of Text", back, e, l)
		if again, e := thread.Text(back); again != s || e != api.OK {
			t.Fatalf("Text of Parse of %q: %q, %d", s, again, e)
		}
		r := must(t)(thread.Renumber(l))
		twice, e := thread.Renumber(r)
		wantList(t, "renumbered twice", twice, e, r)
		turned, e := thread.Reverse(must(t)(thread.Reverse(l)))
		wantList(t, "reversed twice", turned, e, l)
	}
	for n := 2; n <= 400; n++ {
		l := must(t)(thread.Pointed(n, 400))
		for i := 1; i < len(l); i++ {
			if d := l[i] - l[i-1]; d != 1 && d != -1 {
				t.Fatalf("the pointed list of %d has %d beside %d", n, l[i], l[i-1])
			}
		}
	}
}
