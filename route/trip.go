package route

import (
	"iter"
	"slices"
	"sort"

	"ballonet/api"
)

// Check returns whether an alternate can be reached from each site of a route (P6.4).
func Check(c api.Chart, p api.Pace, f [][]api.Gale, from int, route []int, fuel int) (at int, e api.Errno) {
	t, e := fuelledTripOf(c, p, f, from, route, fuel)
	if e != api.OK {
		return 0, e
	}
	return t.check(t.alternates(), fuel)
}

// Alternates returns the alternate of each site of a route (P6.5).
func Alternates(c api.Chart, p api.Pace, f [][]api.Gale, from int, route []int, fuel int) ([][]int, api.Errno) {
	t, e := fuelledTripOf(c, p, f, from, route, fuel)
	if e != api.OK {
		return nil, e
	}
	plans := t.alternates()
	if _, e := t.check(plans, fuel); e != api.OK {
		return nil, e
	}
	var l [][]int
	for _, site := range t.sites {
		// A route may come to a site again, and each list has its own memory.
		l = append(l, slices.Clone(plans[site].tracks))
	}
	return l, api.OK
}

// Least returns the least fuel for a route (P6.5).
func Least(c api.Chart, p api.Pace, f [][]api.Gale, from int, route []int) (int, api.Errno) {
	t, e := tripOf(c, p, f, from, route)
	if e != api.OK {
		return 0, e
	}
	plans := t.alternates()
	fuel := sort.Search(api.MaxBound+1, func(fuel int) bool {
		_, e := t.check(plans, fuel)
		return e == api.OK
	})
	if fuel > api.MaxBound {
		return 0, api.ErrNone
	}
	return fuel, api.OK
}

// NoReturn returns the point of no return of a route (P6.6).
func NoReturn(c api.Chart, p api.Pace, f [][]api.Gale, from int, route []int, fuel int) (api.Point, api.Errno) {
	t, e := returnTripOf(c, p, f, from, route)
	if e != api.OK {
		return api.Point{}, e
	}
	point, found := t.last(func(p api.Point) bool {
		return sumOf(t.wayTo(p), t.fuel)+sumOf(t.wayBack(p), t.fuel)+t.Reserve <= fuel
	})
	if !found {
		return api.Point{}, api.ErrFuel
	}
	return point, api.OK
}

// Equal returns the point of equal time of a route (P6.6).
func Equal(c api.Chart, p api.Pace, f [][]api.Gale, from int, route []int) (api.Point, api.Errno) {
	t, e := returnTripOf(c, p, f, from, route)
	if e != api.OK {
		return api.Point{}, e
	}
	// It is so at the first point, from which the way back takes no time.
	point, _ := t.last(func(p api.Point) bool {
		return sumOf(t.wayBack(p), t.time) <= sumOf(t.wayOn(p), t.time)
	})
	return point, api.OK
}

// trip is a route of a voyage: the sites that it reaches, and the courses between them.
type trip struct {
	voyage
	sites   []int
	courses []course
}

// tripOf returns the errors of a chart, a pace, a forecast and a route, or the trip that they are.
func tripOf(c api.Chart, p api.Pace, f [][]api.Gale, from int, route []int) (trip, api.Errno) {
	v, e := voyageOf(c, p, f)
	if e != api.OK {
		return trip{}, e
	}
	if len(route) > api.MaxHops {
		return trip{}, api.ErrMany
	}
	if !isSite(c, from) {
		return trip{}, api.ErrArg
	}
	t := trip{voyage: v, sites: []int{from}}
	for _, track := range route {
		if !isTrack(c, track) {
			return trip{}, api.ErrArg
		}
		flown, to, leaves := courseFrom(c, from, track)
		if !leaves {
			return trip{}, api.ErrArg
		}
		t.courses, t.sites = append(t.courses, flown), append(t.sites, to)
		from = to
	}
	return t, api.OK
}

// returnTripOf returns tripOf's errors, then ErrArg if there are no tracks, and ErrClosed unless all are open in both directions.
func returnTripOf(c api.Chart, p api.Pace, f [][]api.Gale, from int, route []int) (trip, api.Errno) {
	t, e := tripOf(c, p, f, from, route)
	if e != api.OK {
		return trip{}, e
	}
	if len(t.courses) == 0 {
		return trip{}, api.ErrArg
	}
	for _, c := range t.courses {
		if !t.isOpen(c) || !t.isOpen(c.turned()) {
			return trip{}, api.ErrClosed
		}
	}
	return t, api.OK
}

// fuelledTripOf returns tripOf's errors, then ErrArg for a fuel that cannot be.
func fuelledTripOf(c api.Chart, p api.Pace, f [][]api.Gale, from int, route []int, fuel int) (trip, api.Errno) {
	t, e := tripOf(c, p, f, from, route)
	if e != api.OK {
		return trip{}, e
	}
	if !inOrder(0, fuel, api.MaxBound) {
		return trip{}, api.ErrArg
	}
	return t, api.OK
}

// check goes from site to site with some fuel, and returns what is wrong there, and where; otherwise the number of tracks.
func (t trip) check(alternates map[int]plan, fuel int) (at int, e api.Errno) {
	for i, site := range t.sites {
		alternate, found := alternates[site]
		if !found || fuel < alternate.fuel+t.Reserve {
			return i, api.ErrFuel
		}
		if i == len(t.courses) {
			break
		}
		if !t.isOpen(t.courses[i]) {
			return i, api.ErrClosed
		}
		fuel -= t.costs(t.courses[i])
	}
	return len(t.courses), api.OK
}

// last returns the last point at which something is so, and whether there is one. What is so at a point has to be so at all points before it, and at both points that are one place: the end of a track, and the beginning of the next one.
func (t trip) last(isSo func(p api.Point) bool) (point api.Point, found bool) {
	hops := sort.Search(len(t.courses), func(hop int) bool { return !isSo(api.Point{Hop: hop}) })
	if hops == 0 {
		return api.Point{}, false
	}
	hop := hops - 1
	beyond := sort.Search(t.length(t.courses[hop])+1, func(m int) bool { return !isSo(api.Point{Hop: hop, Metres: m}) })
	return api.Point{Hop: hop, Metres: beyond - 1}, true
}

// wayTo yields the parts of the way to a point: courses, with the metres of them that are flown.
func (t trip) wayTo(p api.Point) iter.Seq2[course, int] {
	return func(yield func(c course, metres int) bool) {
		for _, c := range t.courses[:p.Hop] {
			if !yield(c, t.length(c)) {
				return
			}
		}
		yield(t.courses[p.Hop], p.Metres)
	}
}

// wayBack yields the parts of the way back from a point, as wayTo does.
func (t trip) wayBack(p api.Point) iter.Seq2[course, int] {
	return func(yield func(c course, metres int) bool) {
		if !yield(t.courses[p.Hop].turned(), p.Metres) {
			return
		}
		for _, c := range slices.Backward(t.courses[:p.Hop]) {
			if !yield(c.turned(), t.length(c)) {
				return
			}
		}
	}
}

// wayOn yields the parts of the way on from a point, as wayTo does.
func (t trip) wayOn(p api.Point) iter.Seq2[course, int] {
	return func(yield func(c course, metres int) bool) {
		here := t.courses[p.Hop]
		if !yield(here, t.length(here)-p.Metres) {
			return
		}
		for _, c := range t.courses[p.Hop+1:] {
			if !yield(c, t.length(c)) {
				return
			}
		}
	}
}

// sumOf returns the sum of the Hi of what is told of the parts of a way.
func sumOf(way iter.Seq2[course, int], of func(c course, metres int) api.Span) int {
	sum := 0
	for c, metres := range way {
		sum += of(c, metres).Hi
	}
	return sum
}
