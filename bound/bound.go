// Package bound is layer 1: what is known of numbers that are not known exactly, as spans of whole numbers (this file), tables of spans (table.go) and regions (region.go). Everything is rounded outwards. See shared/doc/01-bound.md.
package bound

import (
	"math/bits"
	"sort"

	"ballonet/api"
)

// Check returns ErrSpan unless a span is valid (P1.1).
func Check(s api.Span) api.Errno {
	if s.Lo > s.Hi || s.Lo < -api.MaxBound || s.Hi > api.MaxBound {
		return api.ErrSpan
	}
	return api.OK
}

// checkAll returns Check's first error for some spans.
func checkAll(spans ...api.Span) api.Errno {
	for _, s := range spans {
		if e := Check(s); e != api.OK {
			return e
		}
	}
	return api.OK
}

// fitting returns a span, or ErrLarge if it is too large.
func fitting(s api.Span) (api.Span, api.Errno) {
	if s.Lo < -api.MaxBound || s.Hi > api.MaxBound {
		return api.Span{}, api.ErrLarge
	}
	return s, api.OK
}

// Add returns the least span of all sums (P1.1).
func Add(a, b api.Span) (api.Span, api.Errno) {
	if e := checkAll(a, b); e != api.OK {
		return api.Span{}, e
	}
	return fitting(api.Span{Lo: a.Lo + b.Lo, Hi: a.Hi + b.Hi})
}

// Sub returns the least span of all differences (P1.1).
func Sub(a, b api.Span) (api.Span, api.Errno) {
	if e := checkAll(a, b); e != api.OK {
		return api.Span{}, e
	}
	return fitting(api.Span{Lo: a.Lo - b.Hi, Hi: a.Hi - b.Lo})
}

// Mul returns the least span of all products (P1.1).
func Mul(a, b api.Span) (api.Span, api.Errno) {
	if e := checkAll(a, b); e != api.OK {
		return api.Span{}, e
	}
	return fitting(ratios(a, b, api.Span{Lo: 1, Hi: 1}))
}

// Over returns the least span of all x * y / z (P1.1).
func Over(a, b, c api.Span) (api.Span, api.Errno) {
	if e := checkAll(a, b, c); e != api.OK {
		return api.Span{}, e
	}
	if c.Lo <= 0 {
		return api.Span{}, api.ErrZero
	}
	return fitting(ratios(a, b, c))
}

// ratios returns the least span of all x * y / z, for a c above 0. If one factor moves and the others stay, x * y / z only rises or only falls: so the extremes are among those of the ends.
func ratios(a, b, c api.Span) api.Span {
	var down, up [8]int
	for i := range len(down) {
		down[i], up[i] = ratio(end(a, i&1), end(b, i&2), end(c, i&4))
	}
	return api.Span{Lo: least(down[0], down[1:]...), Hi: greatest(up[0], up[1:]...)}
}

// end returns the lower end of a span for 0, the upper one for anything else.
func end(s api.Span, which int) int {
	if which == 0 {
		return s.Lo
	}
	return s.Hi
}

// ratio returns x * y / z, rounded down and rounded up, for a z above 0. The product may have 80 bits. What is beyond MaxBound comes out as something just beyond it, as this is too large as well, and fits an int.
func ratio(x, y, z int) (down, up int) {
	high, low := bits.Mul64(size(x), size(y))
	q, r := uint64(api.MaxBound+1), uint64(0)
	if high < uint64(z) {
		q, r = bits.Div64(high, low, uint64(z))
	}
	down = int(min(q, api.MaxBound+1))
	up = down
	if r > 0 {
		up++
	}
	if (x < 0) != (y < 0) {
		return -up, -down
	}
	return down, up
}

// size returns how far a number is from 0.
func size(n int) uint64 {
	if n < 0 {
		return uint64(-n)
	}
	return uint64(n)
}

// least returns the least of some numbers.
func least(first int, more ...int) int {
	for _, n := range more {
		first = min(first, n)
	}
	return first
}

// greatest returns the greatest of some numbers.
func greatest(first int, more ...int) int {
	for _, n := range more {
		first = max(first, n)
	}
	return first
}

// Root returns the least span of all square roots (P1.1).
func Root(a api.Span) (api.Span, api.Errno) {
	if e := Check(a); e != api.OK {
		return api.Span{}, e
	}
	if a.Lo < 0 {
		return api.Span{}, api.ErrArg
	}
	// No root of a valid span is beyond this, as its square is MaxBound.
	const most = 1 << 20
	above := sort.Search(most+1, func(r int) bool { return r*r > a.Lo })
	reaching := sort.Search(most+1, func(r int) bool { return r*r >= a.Hi })
	return api.Span{Lo: above - 1, Hi: reaching}, api.OK
}

// Meet returns the span of what both hold (P1.2).
func Meet(a, b api.Span) (api.Span, api.Errno) {
	if e := checkAll(a, b); e != api.OK {
		return api.Span{}, e
	}
	both := api.Span{Lo: max(a.Lo, b.Lo), Hi: min(a.Hi, b.Hi)}
	if both.Lo > both.Hi {
		return api.Span{}, api.ErrNone
	}
	return both, api.OK
}

// Join returns the least span that holds what either holds (P1.2).
func Join(a, b api.Span) (api.Span, api.Errno) {
	if e := checkAll(a, b); e != api.OK {
		return api.Span{}, e
	}
	return api.Span{Lo: min(a.Lo, b.Lo), Hi: max(a.Hi, b.Hi)}, api.OK
}

// Holds reports whether a holds all that b holds (P1.2).
func Holds(a, b api.Span) (bool, api.Errno) {
	if e := checkAll(a, b); e != api.OK {
		return false, e
	}
	return a.Lo <= b.Lo && b.Hi <= a.Hi, api.OK
}
