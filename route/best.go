package route

import (
	"cmp"
	"slices"

	"ballonet/api"
)

// Best returns the best route between two sites, and its fuel (P6.3).
func Best(c api.Chart, p api.Pace, f [][]api.Gale, from, to int) (route []int, fuel int, e api.Errno) {
	v, e := voyageOf(c, p, f)
	if e != api.OK {
		return nil, 0, e
	}
	if !isSite(c, from) || !isSite(c, to) {
		return nil, 0, api.ErrArg
	}
	best, found := v.plansTo(func(site int) bool { return site == to })[from]
	if !found {
		return nil, 0, api.ErrNone
	}
	return best.tracks, best.fuel, api.OK
}

// Need returns what a site needs (P6.3).
func Need(c api.Chart, p api.Pace, f [][]api.Gale, site int) (int, api.Errno) {
	v, e := voyageOf(c, p, f)
	if e != api.OK {
		return 0, e
	}
	if !isSite(c, site) {
		return 0, api.ErrArg
	}
	alternate, found := v.alternates()[site]
	if !found {
		return 0, api.ErrNone
	}
	return alternate.fuel + p.Reserve, api.OK
}

// plan is a route with open tracks, and its fuel.
type plan struct {
	tracks []int
	fuel   int
}

// comparePlans compares two plans: the one with less fuel is before the other one, of these the one with fewer tracks, of these the one that is first in lexicographic order.
func comparePlans(a, b plan) int {
	return cmp.Or(
		cmp.Compare(a.fuel, b.fuel),
		cmp.Compare(len(a.tracks), len(b.tracks)),
		slices.Compare(a.tracks, b.tracks),
	)
}

// first returns what is before all others of a list, and whether there is anything.
func first[T any](l []T, compare func(a, b T) int) (x T, found bool) {
	if len(l) == 0 {
		return x, false
	}
	return slices.MinFunc(l, compare), true
}

// alternates returns the alternate of each site from which a port can be reached.
func (v voyage) alternates() map[int]plan {
	return v.plansTo(func(site int) bool { return v.Ports[site] })
}

// plansTo returns the first plan from each site to a goal, for the sites that have one.
func (v voyage) plansTo(isGoal func(site int) bool) map[int]plan {
	plans := map[int]plan{}
	for site := range v.Ports {
		if isGoal(site) {
			plans[site] = plan{}
		}
	}
	// A first plan comes to no site twice, as without what is between it would need no more fuel, and have fewer tracks: so it has fewer tracks than there are sites.
	for range len(v.Ports) - 1 {
		plans = v.longer(plans)
	}
	return plans
}

// longer returns the first plan from each site, of some plans and of those that have one track before them.
func (v voyage) longer(plans map[int]plan) map[int]plan {
	all := map[int]plan{}
	for site := range v.Ports {
		if p, found := first(v.choices(site, plans), comparePlans); found {
			all[site] = p
		}
	}
	return all
}

// choices returns the plan that a site has, and those that go on from it by one track to a site with a plan.
func (v voyage) choices(site int, plans map[int]plan) []plan {
	var l []plan
	if p, found := plans[site]; found {
		l = append(l, p)
	}
	for track := range v.Tracks {
		c, to, leaves := courseFrom(v.Chart, site, track)
		if !leaves {
			continue
		}
		if p, found := plans[to]; found && v.isOpen(c) {
			l = append(l, plan{tracks: slices.Insert(slices.Clone(p.tracks), 0, track), fuel: v.costs(c) + p.fuel})
		}
	}
	return l
}

// courseFrom returns the course of a track from a site, and the site that it leads to; and whether the track is from this site at all.
func courseFrom(c api.Chart, site, track int) (flown course, to int, leaves bool) {
	switch t := c.Tracks[track]; site {
	case t.A:
		return course{track, false}, t.B, true
	case t.B:
		return course{track, true}, t.A, true
	}
	return course{}, 0, false
}
