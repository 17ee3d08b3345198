package bound

import (
	"cmp"
	"iter"
	"slices"

	"ballonet/api"
)

// CheckRegion returns ErrRegion unless a region is valid (P1.4).
func CheckRegion(r []api.Corner) api.Errno {
	if len(r) < 1 || len(r) > api.MaxCorners || anyBeyond(r) {
		return api.ErrRegion
	}
	// The hull has the corners in the one valid order, and no others: so what differs from it is no region.
	if !slices.Equal(hull(r), r) {
		return api.ErrRegion
	}
	return api.OK
}

// checkRegions returns CheckRegion's first error for two regions.
func checkRegions(a, b []api.Corner) api.Errno {
	if e := CheckRegion(a); e != api.OK {
		return e
	}
	return CheckRegion(b)
}

// anyBeyond reports whether an X or Y of some points is not from -MaxCorner to MaxCorner.
func anyBeyond(points []api.Corner) bool {
	return slices.ContainsFunc(points, func(p api.Corner) bool {
		return beyond(p.X, api.MaxCorner) || beyond(p.Y, api.MaxCorner)
	})
}

// Hull returns the least region that holds some points (P1.4).
func Hull(points []api.Corner) ([]api.Corner, api.Errno) {
	if len(points) > api.MaxPoints {
		return nil, api.ErrMany
	}
	if len(points) < 1 || anyBeyond(points) {
		return nil, api.ErrArg
	}
	return hull(points), api.OK
}

// hull returns the corners of the least region that holds one or more points: those below from left to right, then those above from right to left. X and Y may be twice as far as MaxCorner.
func hull(points []api.Corner) []api.Corner {
	l := slices.Clone(points)
	slices.SortFunc(l, func(p, q api.Corner) int {
		return cmp.Or(cmp.Compare(p.X, q.X), cmp.Compare(p.Y, q.Y))
	})
	l = slices.Compact(l)
	if len(l) == 1 {
		return l
	}
	below := leftTurns(l)
	slices.Reverse(l)
	above := leftTurns(l)
	// Each of the two ends where the other one begins.
	return append(below[:len(below)-1], above[:len(above)-1]...)
}

// leftTurns returns the way from the first of some points to the last one that only turns left and has all of them at its left; the points are in order.
func leftTurns(l []api.Corner) []api.Corner {
	var way []api.Corner
	for _, p := range l {
		for len(way) > 1 && turn(way[len(way)-2], way[len(way)-1], p) <= 0 {
			way = way[:len(way)-1]
		}
		way = append(way, p)
	}
	return way
}

// turn returns a number above 0 if r is at the left of the line from p to q, below 0 if at its right, 0 if on it.
func turn(p, q, r api.Corner) int {
	return (q.X-p.X)*(r.Y-p.Y) - (q.Y-p.Y)*(r.X-p.X)
}

// edges yields each corner of a region with the next one. A segment comes both ways, a point with itself.
func edges(r []api.Corner) iter.Seq2[api.Corner, api.Corner] {
	return func(yield func(p, q api.Corner) bool) {
		last := r[len(r)-1]
		for _, c := range r {
			if !yield(last, c) {
				return
			}
			last = c
		}
	}
}

// Inside reports whether a region holds a point (P1.4).
func Inside(r []api.Corner, p api.Corner) (bool, api.Errno) {
	if e := CheckRegion(r); e != api.OK {
		return false, e
	}
	return inside(r, p), api.OK
}

func inside(r []api.Corner, p api.Corner) bool {
	// A segment needs the box, as its edges only tell the line that it is on; a point has nothing else. And what is far away would be too large for turn.
	if p.X > reach(r, 1, 0) || p.X < -reach(r, -1, 0) || p.Y > reach(r, 0, 1) || p.Y < -reach(r, 0, -1) {
		return false
	}
	for a, b := range edges(r) {
		if turn(a, b, p) < 0 {
			return false
		}
	}
	return true
}

// Within reports whether b holds all that a holds (P1.4).
func Within(a, b []api.Corner) (bool, api.Errno) {
	if e := checkRegions(a, b); e != api.OK {
		return false, e
	}
	for _, p := range a {
		if !inside(b, p) {
			return false, api.OK
		}
	}
	return true, api.OK
}

// Reach returns the reach of a region in a direction (P1.5).
func Reach(r []api.Corner, dx, dy int) (int, api.Errno) {
	if e := CheckRegion(r); e != api.OK {
		return 0, e
	}
	if beyond(dx, api.MaxDir) || beyond(dy, api.MaxDir) {
		return 0, api.ErrArg
	}
	return reach(r, dx, dy), api.OK
}

func reach(r []api.Corner, dx, dy int) int {
	far := dx*r[0].X + dy*r[0].Y
	for _, c := range r[1:] {
		far = max(far, dx*c.X+dy*c.Y)
	}
	return far
}

// Sum returns the sum of two regions (P1.5).
func Sum(a, b []api.Corner) ([]api.Corner, api.Errno) {
	if e := checkRegions(a, b); e != api.OK {
		return nil, e
	}
	// Each corner of the sum is a sum of two corners.
	all := make([]api.Corner, 0, len(a)*len(b))
	for _, p := range a {
		for _, q := range b {
			all = append(all, api.Corner{X: p.X + q.X, Y: p.Y + q.Y})
		}
	}
	s := hull(all)
	if anyBeyond(s) {
		return nil, api.ErrLarge
	}
	if len(s) > api.MaxCorners {
		return nil, api.ErrMany
	}
	return s, api.OK
}

// Parts reports whether a direction parts two regions (P1.5).
func Parts(a, b []api.Corner, dx, dy int) (bool, api.Errno) {
	if e := checkRegions(a, b); e != api.OK {
		return false, e
	}
	if beyond(dx, api.MaxDir) || beyond(dy, api.MaxDir) {
		return false, api.ErrArg
	}
	return parts(a, b, dx, dy), api.OK
}

func parts(a, b []api.Corner, dx, dy int) bool {
	return reach(a, dx, dy) < -reach(b, -dx, -dy)
}

// Apart returns a direction that parts two regions (P1.5).
func Apart(a, b []api.Corner) (dx, dy int, e api.Errno) {
	if e := checkRegions(a, b); e != api.OK {
		return 0, 0, e
	}
	for d := range directions(a, b) {
		if parts(a, b, d.X, d.Y) {
			return d.X, d.Y, api.OK
		}
	}
	return 0, 0, api.ErrNone
}

// directions yields directions, of which one parts two regions if any does: out of each edge of a, into each edge of b, and from a to b. For the differences of a point of b and one of a make a region whose edges are those of b and those of a turned round; if it does not hold 0, then 0 is outside of one of its edges, or (if it is a segment or a point) on its line.
func directions(a, b []api.Corner) iter.Seq[api.Corner] {
	return func(yield func(d api.Corner) bool) {
		for p, q := range edges(a) {
			if !yield(api.Corner{X: q.Y - p.Y, Y: p.X - q.X}) {
				return
			}
		}
		for p, q := range edges(b) {
			if !yield(api.Corner{X: p.Y - q.Y, Y: q.X - p.X}) {
				return
			}
		}
		yield(api.Corner{X: b[0].X - a[0].X, Y: b[0].Y - a[0].Y})
	}
}
