package picture_test

import (
	"slices"
	"testing"

	"raddle/api"
	"raddle/colour"
	"raddle/picture"
)

// wantFirst checks the first thread colours that fit an image.
func wantFirst(t *testing.T, m api.Image, wantWarp, wantWeft []int) {
	t.Helper()
	warp, weft, e := picture.First(m)
	if !slices.Equal(warp, wantWarp) || !slices.Equal(weft, wantWeft) || e != api.OK {
		t.Fatalf("First of %s: %v, %v, %d, want %v, %v", text(m), warp, weft, e, wantWarp, wantWeft)
	}
}

// isSameLists reports whether lists of lists are equal.
func isSameLists(a, b [][]int) bool { return slices.EqualFunc(a, b, slices.Equal[[]int]) }

// wantChoices checks the choices of all ends and picks.
func wantChoices(t *testing.T, m api.Image, wantEnds, wantPicks [][]int) {
	t.Helper()
	ends, picks, e := picture.Choices(m)
	if !isSameLists(ends, wantEnds) || !isSameLists(picks, wantPicks) || e != api.OK {
		t.Fatalf("Choices of %s: %v, %v, %d, want %v, %v", text(m), ends, picks, e, wantEnds, wantPicks)
	}
}

// wantNoFit checks that First and Choices have an error.
func wantNoFit(t *testing.T, m api.Image, want api.Errno) {
	t.Helper()
	if warp, weft, e := picture.First(m); len(warp) != 0 || len(weft) != 0 || e != want {
		t.Fatalf("First of %v: %v, %v, %d, want %d", m, warp, weft, e, want)
	}
	if ends, picks, e := picture.Choices(m); len(ends) != 0 || len(picks) != 0 || e != want {
		t.Fatalf("Choices of %v: %v, %v, %d, want %d", m, ends, picks, e, want)
	}
}

// all has all colours.
var all = []int{0, 1, 2, 3, 4, 5, 6, 7, 8, 9, 10, 11, 12, 13, 14, 15}

// tried is what is found when thread colours are tried: the first ones that fit,
// and the choices.
type tried struct {
	fit         int
	warp, weft  []int
	ends, picks [][]int
}

// add notes a colour in an increasing list.
func add(l []int, c int) []int {
	i, has := slices.BinarySearch(l, c)
	if has {
		return l
	}
	return slices.Insert(l, i, c)
}

// tryAll tries all thread colours of an image, the ones that come before others
// first.
func tryAll(m api.Image, warps, wefts [][]int) tried {
	r := tried{ends: make([][]int, m.W), picks: make([][]int, m.H)}
	for _, warp := range warps {
		for _, weft := range wefts {
			if !isFit(dyed{m, warp, weft}) {
				continue
			}
			if r.fit == 0 {
				r.warp, r.weft = warp, weft
			}
			r.fit++
			for x, c := range warp {
				r.ends[x] = add(r.ends[x], c)
			}
			for y, c := range weft {
				r.picks[y] = add(r.picks[y], c)
			}
		}
	}
	return r
}

// suiting returns the colours of which a row may have its pick, if the ends have
// these colours.
func suiting(m api.Image, warp []int, y int, of []int) []int {
	var l []int
	for _, c := range of {
		isGood := true
		for x, end := range warp {
			if k := m.C[y*m.W+x]; k != end && k != c {
				isGood = false
			}
		}
		if isGood {
			l = append(l, c)
		}
	}
	return l
}

// tryEnds does the same as tryAll in fewer steps: it tries all colours of the ends,
// and then those of each pick alone.
func tryEnds(m api.Image, of []int) tried {
	r := tried{ends: make([][]int, m.W), picks: make([][]int, m.H)}
	for _, warp := range allLists(m.W, of...) {
		fit, picks := 1, make([][]int, m.H)
		for y := range picks {
			picks[y] = suiting(m, warp, y, of)
			fit *= len(picks[y])
		}
		if fit == 0 {
			continue
		}
		for y, l := range picks {
			if r.fit == 0 {
				r.weft = append(r.weft, l[0])
			}
			for _, c := range l {
				r.picks[y] = add(r.picks[y], c)
			}
		}
		if r.fit == 0 {
			r.warp = warp
		}
		r.fit += fit
		for x, c := range warp {
			r.ends[x] = add(r.ends[x], c)
		}
	}
	return r
}

// palette returns the colours of an image, and the least one that it does not have,
// which stands for all of these: they are alike.
func palette(m api.Image) []int {
	var l []int
	for _, c := range m.C {
		l = add(l, c)
	}
	for c := range 16 {
		if !slices.Contains(l, c) {
			return add(l, c)
		}
	}
	return l
}

// tryFew tries the palette of an image alone, and puts all other colours to the one
// that stands for them.
func tryFew(m api.Image) tried {
	of := palette(m)
	r := tryEnds(m, of)
	for _, lists := range [][][]int{r.ends, r.picks} {
		for i, l := range lists {
			for _, c := range all {
				if !slices.Contains(of, c) && slices.ContainsFunc(l, func(k int) bool { return !slices.Contains(m.C, k) }) {
					lists[i] = add(lists[i], c)
				}
			}
		}
	}
	return r
}

// wantTried checks First and Choices of an image.
func wantTried(t *testing.T, m api.Image, r tried) {
	t.Helper()
	if r.fit == 0 {
		wantNoFit(t, m, api.ErrNone)
		return
	}
	wantFirst(t, m, r.warp, r.weft)
	wantChoices(t, m, r.ends, r.picks)
}

// P15.3: some images that many thread colours fit, that two lists fit, or one, or
// none; that the least colour of the first end does not fit; and where a later
// thread cannot have the least of its choices with the first ones.
func TestSomeFits(t *testing.T) {
	for _, c := range []struct {
		image       string
		warp, weft  []int
		ends, picks [][]int
	}{
		{"a\n", []int{0}, []int{0}, [][]int{all}, [][]int{all}},
		{"p\n", []int{0}, []int{15}, [][]int{all}, [][]int{all}},
		{"ab\n", []int{0, 0}, []int{1}, [][]int{all, all}, [][]int{all}},
		{"b\na\n", []int{0}, []int{0, 1}, [][]int{all}, [][]int{all, all}},
		{"abc\n", []int{0, 0, 2}, []int{1}, [][]int{all, all, all}, [][]int{all}},
		{"c\nb\na\n", []int{0}, []int{0, 1, 2}, [][]int{all}, [][]int{all, all, all}},
		{"bb\nab\n", []int{0, 0}, []int{1, 1}, [][]int{all, all}, [][]int{all, all}},
		{"cd\nab\n", []int{0, 3}, []int{1, 2}, [][]int{{0, 2}, {1, 3}}, [][]int{{0, 1}, {2, 3}}},
		{"ab\ncd\n", []int{0, 3}, []int{2, 1}, [][]int{{0, 2}, {1, 3}}, [][]int{{2, 3}, {0, 1}}},
		{"bc\nba\n", []int{1, 0}, []int{0, 2}, [][]int{{1}, all}, [][]int{all, all}},
		{"ad\nbc\nba\n", []int{1, 3}, []int{0, 2, 0}, [][]int{{1}, {3}}, [][]int{{0}, {2}, {0}}},
	} {
		wantFirst(t, readImage(t, c.image), c.warp, c.weft)
		wantChoices(t, readImage(t, c.image), c.ends, c.picks)
	}
	for _, s := range []string{"abc\ndef\n", "ab\ncd\nef\n", "abc\nbca\ncab\n", "caba\nabca\nbaca\n"} {
		wantNoFit(t, readImage(t, s), api.ErrNone)
	}
}

// P15.3: all thread colours are tried, with colours that the image does not have.
func TestAllColoursAreTried(t *testing.T) {
	for _, c := range []struct {
		w, h int
		of   []int
	}{{1, 1, all}, {1, 2, all}, {2, 1, all}, {2, 2, []int{0, 15}}, {2, 2, []int{1, 2}}} {
		warps, wefts := allLists(c.w, all...), allLists(c.h, all...)
		for _, m := range allImages(c.w, c.h, c.of...) {
			r := tryAll(m, warps, wefts)
			wantTried(t, m, r)
			if few := tryFew(m); !isSameLists(few.ends, r.ends) || !isSameLists(few.picks, r.picks) {
				t.Fatalf("%s: %v, %v", text(m), few, r)
			}
		}
	}
	for _, s := range []string{"ab\ncd\n", "pc\nbp\n", "nm\nnn\n", "bc\nba\n", "aa\npb\n"} {
		m := readImage(t, s)
		wantTried(t, m, tryAll(m, allLists(2, all...), allLists(2, all...)))
	}
}

// isLeast reports whether each thread has the least of its choices.
func isLeast(r tried) bool {
	for i, c := range slices.Concat(r.warp, r.weft) {
		if slices.Concat(r.ends, r.picks)[i][0] != c {
			return false
		}
	}
	return true
}

// P15.3: all small images of few colours, against the definition.
func TestAllSmallImages(t *testing.T) {
	var none, one, many, notLeast, notZero int
	for _, c := range []struct {
		w, h int
		of   []int
	}{
		{1, 1, all}, {1, 3, []int{0, 1, 2, 3}}, {3, 1, []int{0, 1, 2, 3}}, {1, 4, []int{1, 3, 5}}, {4, 1, []int{1, 3, 5}}, {2, 2, []int{0, 1, 2, 3, 4}},
		{3, 2, []int{0, 1, 2}}, {2, 3, []int{0, 1, 2}}, {4, 2, []int{0, 2}}, {2, 4, []int{0, 2}}, {2, 5, []int{1, 0}}, {3, 3, []int{0, 1, 2}}, {4, 3, []int{0, 1}}, {3, 4, []int{0, 1}},
	} {
		for _, m := range allImages(c.w, c.h, c.of...) {
			r := tryFew(m)
			wantTried(t, m, r)
			switch {
			case r.fit == 0:
				none++
				continue
			case r.fit == 1:
				one++
			default:
				many++
			}
			if !isLeast(r) {
				notLeast++
			}
			if column := m.C[0]; r.warp[0] > min(column, m.C[m.W*(m.H-1)]) && len(r.ends[0]) > 1 {
				notZero++
			}
		}
	}
	if none < 1000 || one < 1000 || many < 1000 || notLeast < 100 || notZero < 10 {
		t.Errorf("%d fit none, %d one, %d many; for %d the least choices do not fit together, for %d the first end has no least colour", none, one, many, notLeast, notZero)
	}
}

// mixed returns an image that is like the front of a cloth most of whose threads
// have the colour 0, but for some cells.
func mixed(w, h, of, others int, seed uint32) api.Image {
	roll := dice(seed)
	dye := func() int { return max(0, roll(of*3)-of*2) }
	var warp, weft []int
	for range w {
		warp = append(warp, dye())
	}
	for range h {
		weft = append(weft, dye())
	}
	m := build(w, h, func(x, y int) int {
		if roll(2) == 1 {
			return warp[x]
		}
		return weft[y]
	})
	for range others {
		m.C[roll(w*h)] = roll(of)
	}
	return m
}

// P15.3: images of more cells, against the definition.
func TestMixedImages(t *testing.T) {
	none, some := 0, 0
	for _, s := range [][2]int{{4, 4}, {3, 6}, {5, 3}, {5, 5}, {4, 9}} {
		for of := 2; of <= 4; of++ {
			for others := range 7 {
				for seed := range uint32(6) {
					m := mixed(s[0], s[1], of, others, seed)
					r := tryFew(m)
					wantTried(t, m, r)
					if r.fit == 0 {
						none++
					} else {
						some++
					}
				}
			}
		}
	}
	if none < 20 || some < 20 {
		t.Errorf("%d fit none, %d some", none, some)
	}
}

// P15.3: images of one colour fit if all ends have it, or all picks.
func TestOneColour(t *testing.T) {
	for c := range 16 {
		for _, s := range append(greatSizes, smallSizes...) {
			m := plain(s[0], s[1], c)
			ends, picks := slices.Repeat([][]int{all}, s[0]), slices.Repeat([][]int{all}, s[1])
			wantFirst(t, m, make([]int, s[0]), slices.Repeat([]int{c}, s[1]))
			wantChoices(t, m, ends, picks)
		}
	}
}

// P15.3: stripes of all 16 colours. Each of them can be taken from the ends that
// have it, if all picks get it: the first ones do so with the first one but 0.
func TestStripes(t *testing.T) {
	for first := range 16 {
		var stripes []int
		for i := range 64 {
			stripes = append(stripes, (i*5+first)%16)
		}
		taken := first
		if first == 0 {
			taken = stripes[1]
		}
		free := slices.Repeat([][]int{all}, 64)
		for _, n := range []int{1, 2, 64} {
			along := build(64, n, func(x, y int) int { return stripes[x] })
			wantFirst(t, along, skip(stripes, taken), slices.Repeat([]int{taken}, n))
			wantChoices(t, along, free, free[:n])
			across, _ := colour.Turn(along)
			wantFirst(t, across, make([]int, n), stripes)
			wantChoices(t, across, free[:n], free)
		}
	}
}

// skip returns a list with 0 in the place of a colour.
func skip(l []int, c int) []int {
	l = slices.Clone(l)
	for i := range l {
		if l[i] == c {
			l[i] = 0
		}
	}
	return l
}

// P15.3: images that one list alone fits, up to MaxSide.
func TestOneFit(t *testing.T) {
	for _, s := range [][2]int{{64, 64}, {63, 64}, {40, 17}, {16, 16}} {
		for seed := range uint32(3) {
			warp, weft := someColours(s[0], 16, seed), someColours(s[1], 16, seed+7)
			m := front(t, random(s[0], s[1], seed), warp, weft)
			var ends, picks [][]int
			for _, c := range warp {
				ends = append(ends, []int{c})
			}
			for _, c := range weft {
				picks = append(picks, []int{c})
			}
			wantFirst(t, m, warp, weft)
			wantChoices(t, m, ends, picks)
			for _, i := range []int{0, 1, s[0] - 1, s[0], s[0]*s[1]/2 + 5, s[0]*s[1] - 1} {
				was := m.C[i]
				m.C[i] = 0
				for m.C[i] == warp[i%s[0]] || m.C[i] == weft[i/s[0]] {
					m.C[i]++
				}
				wantNoFit(t, m, api.ErrNone)
				m.C[i] = was
			}
		}
	}
}
