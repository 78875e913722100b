// Package grid is layer 1: binary cloth, its texts, and operations on it.
// See shared/doc/01-grid.md.
package grid

import (
	"slices"
	"strings"

	"raddle/api"
)

const (
	up      = 'x'
	down    = '.'
	lineEnd = '\n'
)

func Check(g api.Grid) api.Errno {
	if g.W > api.MaxSide || g.H > api.MaxSide {
		return api.ErrMany
	}
	if g.W < 1 || g.H < 1 || len(g.Bits) != g.W*g.H {
		return api.ErrBad
	}
	return api.OK
}

// Text begins with the last row, since the first one is woven first and lies
// below the others.
func Text(g api.Grid) (string, api.Errno) {
	if e := Check(g); e != api.OK {
		return "", e
	}
	var b strings.Builder
	for y := g.H - 1; y >= 0; y-- {
		for x := range g.W {
			b.WriteByte(mark(cell(g, x, y)))
		}
		b.WriteByte(lineEnd)
	}
	return b.String(), api.OK
}

func Parse(s string) (api.Grid, api.Errno) {
	w := strings.IndexByte(s, lineEnd)
	if w < 1 || w > api.MaxSide || !hasLines(s, w) {
		return api.Grid{}, api.ErrForm
	}
	h := len(s) / (w + 1)
	if h > api.MaxSide {
		return api.Grid{}, api.ErrForm
	}
	return build(w, h, func(x, y int) bool {
		return s[(h-1-y)*(w+1)+x] == up
	}), api.OK
}

func Count(g api.Grid) (int, api.Errno) {
	if e := Check(g); e != api.OK {
		return 0, e
	}
	n := 0
	for _, isUp := range g.Bits {
		if isUp {
			n++
		}
	}
	return n, api.OK
}

func Not(g api.Grid) (api.Grid, api.Errno) {
	if e := Check(g); e != api.OK {
		return api.Grid{}, e
	}
	return build(g.W, g.H, func(x, y int) bool { return !cell(g, x, y) }), api.OK
}

func And(a, b api.Grid) (api.Grid, api.Errno) {
	return combine(a, b, func(p, q bool) bool { return p && q })
}

func Or(a, b api.Grid) (api.Grid, api.Errno) {
	return combine(a, b, func(p, q bool) bool { return p || q })
}

func Turn(g api.Grid) (api.Grid, api.Errno) {
	if e := Check(g); e != api.OK {
		return api.Grid{}, e
	}
	return build(g.H, g.W, func(x, y int) bool { return cell(g, y, x) }), api.OK
}

func Mirror(g api.Grid, axis int) (api.Grid, api.Errno) {
	if e := Check(g); e != api.OK {
		return api.Grid{}, e
	}
	switch axis {
	case 0:
		return build(g.W, g.H, func(x, y int) bool { return cell(g, g.W-1-x, y) }), api.OK
	case 1:
		return build(g.W, g.H, func(x, y int) bool { return cell(g, x, g.H-1-y) }), api.OK
	}
	return api.Grid{}, api.ErrArg
}

func Shift(g api.Grid, dx, dy int) (api.Grid, api.Errno) {
	if e := Check(g); e != api.OK {
		return api.Grid{}, e
	}
	// The steps are reduced first: x - dx overflows for the greatest ones.
	right, on := modulo(dx, g.W), modulo(dy, g.H)
	return build(g.W, g.H, func(x, y int) bool {
		return cell(g, modulo(x-right, g.W), modulo(y-on, g.H))
	}), api.OK
}

func Tile(g api.Grid, nx, ny int) (api.Grid, api.Errno) {
	if e := Check(g); e != api.OK {
		return api.Grid{}, e
	}
	if nx < 1 || ny < 1 {
		return api.Grid{}, api.ErrArg
	}
	// Divided, since nx * W overflows for the greatest nx.
	if nx > api.MaxSide/g.W || ny > api.MaxSide/g.H {
		return api.Grid{}, api.ErrMany
	}
	return build(nx*g.W, ny*g.H, func(x, y int) bool {
		return cell(g, x%g.W, y%g.H)
	}), api.OK
}

func Part(g api.Grid, x, y, w, h int) (api.Grid, api.Errno) {
	if e := Check(g); e != api.OK {
		return api.Grid{}, e
	}
	if !within(x, w, g.W) || !within(y, h, g.H) {
		return api.Grid{}, api.ErrArg
	}
	return build(w, h, func(i, k int) bool { return cell(g, x+i, y+k) }), api.OK
}

// Same checks neither grid: it compares values that are not valid, too.
func Same(a, b api.Grid) bool {
	return a.W == b.W && a.H == b.H && slices.Equal(a.Bits, b.Bits)
}

func build(w, h int, at func(x, y int) bool) api.Grid {
	bits := make([]bool, w*h)
	for y := range h {
		for x := range w {
			bits[y*w+x] = at(x, y)
		}
	}
	return api.Grid{W: w, H: h, Bits: bits}
}

func combine(a, b api.Grid, both func(p, q bool) bool) (api.Grid, api.Errno) {
	if e := Check(a); e != api.OK {
		return api.Grid{}, e
	}
	if e := Check(b); e != api.OK {
		return api.Grid{}, e
	}
	if a.W != b.W || a.H != b.H {
		return api.Grid{}, api.ErrArg
	}
	return build(a.W, a.H, func(x, y int) bool {
		return both(cell(a, x, y), cell(b, x, y))
	}), api.OK
}

func cell(g api.Grid, x, y int) bool {
	return g.Bits[y*g.W+x]
}

func mark(isUp bool) byte {
	if isUp {
		return up
	}
	return down
}

func hasLines(s string, w int) bool {
	if len(s)%(w+1) != 0 {
		return false
	}
	for i := range len(s) {
		if i%(w+1) == w {
			if s[i] != lineEnd {
				return false
			}
		} else if s[i] != up && s[i] != down {
			return false
		}
	}
	return true
}

// modulo differs from % in that its result is never negative.
func modulo(v, n int) int {
	return (v%n + n) % n
}

// within subtracts from size, because start + n overflows for the greatest
// arguments.
func within(start, n, size int) bool {
	return start >= 0 && n >= 1 && n <= size-start
}
