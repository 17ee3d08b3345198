package route_test

import (
	"cmp"
	"iter"
	"math/big"
	"math/rand"
	"slices"

	"ballonet/air"
	"ballonet/api"
)

// Charts, paces and forecasts for tests that try many: small ones, in which routes are often as good as others, and tracks are closed now and then.

// among returns a number from least to most.
func among(r *rand.Rand, least, most int) int { return least + r.Intn(most-least+1) }

// within returns a span from least to most.
func within(r *rand.Rand, least, most int) api.Span {
	a, b := among(r, least, most), among(r, least, most)
	return span(min(a, b), max(a, b))
}

// near returns a span that is not long.
func near(r *rand.Rand, least, most int) api.Span {
	n := among(r, least, most)
	return span(n-r.Intn(30), n+r.Intn(30))
}

func someWinds(r *rand.Rand) []api.Gale {
	var l []api.Gale
	height := among(r, -400, 300)
	for range among(r, 1, 3) {
		l = append(l, api.Gale{Height: height, Wind: api.Wind{X: near(r, -120, 120), Y: near(r, -120, 120)}, Gust: r.Intn(20)})
		height += among(r, 1, 700)
	}
	return l
}

func someCast(r *rand.Rand) [][]api.Gale {
	var f [][]api.Gale
	for range among(r, 1, api.MaxCast) {
		f = append(f, someWinds(r))
	}
	return f
}

func somePace(r *rand.Rand) api.Pace {
	return api.Pace{
		Speed: among(r, 150, 400), Cruise: among(r, 0, 800), Margin: r.Intn(300), Top: among(r, 700, 1500),
		Reserve: r.Intn(300), Burn: within(r, 0, 30),
	}
}

func someChart(r *rand.Rand) api.Chart {
	c := api.Chart{Ports: make([]bool, among(r, 2, 5))}
	for i := range c.Ports {
		c.Ports[i] = r.Intn(2) == 0
	}
	for range r.Intn(8) {
		a, b := r.Intn(len(c.Ports)), r.Intn(len(c.Ports))
		x, y := among(r, -3, 3)*100, among(r, -3, 3)*100
		if a != b && (x != 0 || y != 0) {
			c.Tracks = append(c.Tracks, track(a, b, x, y, among(r, -100, 1000)))
		}
	}
	return c
}

// someAsked returns a chart, a pace and a forecast; every other one has no wind, so that many routes need the same fuel.
func someAsked(r *rand.Rand) asked {
	a := asked{someChart(r), somePace(r), someCast(r)}
	if r.Intn(2) == 0 {
		a.f = [][]api.Gale{winds(only(0), only(0))}
	}
	if r.Intn(8) == 0 {
		a.p.Burn = only(0)
	}
	return a
}

// someRoute returns a route from a site with at most some tracks.
func someRoute(r *rand.Rand, c api.Chart, from, most int) []int {
	var l []int
	for range r.Intn(most + 1) {
		var tracks []int
		for i, t := range c.Tracks {
			if t.A == from || t.B == from {
				tracks = append(tracks, i)
			}
		}
		if len(tracks) == 0 {
			break
		}
		next := tracks[r.Intn(len(tracks))]
		l = append(l, next)
		from, _ = otherEnd(c, from, next)
	}
	return l
}

// otherEnd returns where a track from a site leads, and whether it is flown back.
func otherEnd(c api.Chart, site, track int) (to int, back bool) {
	if t := c.Tracks[track]; t.A == site {
		return t.B, false
	}
	return c.Tracks[track].A, true
}

// What follows works out the chapter's terms once more, as they are told there.

func rootDown(n int) int {
	return int(new(big.Int).Sqrt(big.NewInt(int64(n))).Int64())
}

func rootUp(n int) int {
	root := rootDown(n)
	if root*root < n {
		root++
	}
	return root
}

func lengthOf(t api.Track) int { return rootUp(10000*t.X*t.X + 10000*t.Y*t.Y) }

// speeds returns the slow and the fast speed of a track in each member, and whether it is open.
func (a asked) speeds(track int, back bool) (slow, fast []int, open bool) {
	t := a.c.Tracks[track]
	height := max(a.p.Cruise, t.Least+a.p.Margin)
	x, y := t.X, t.Y
	if back {
		x, y = -x, -y
	}
	open = height <= a.p.Top
	for _, winds := range a.f {
		w, _ := air.WindAt(winds, only(height))
		along, _ := air.Along(w, x, y)
		across, _ := air.Along(w, -y, x)
		greatest := max(across.Lo*across.Lo, across.Hi*across.Hi)
		least := min(across.Lo*across.Lo, across.Hi*across.Hi)
		if across.Lo < 0 && across.Hi > 0 {
			least = 0
		}
		if greatest > a.p.Speed*a.p.Speed {
			return nil, nil, false
		}
		slow = append(slow, along.Lo+rootDown(a.p.Speed*a.p.Speed-greatest))
		fast = append(fast, along.Hi+rootUp(a.p.Speed*a.p.Speed-least))
		open = open && slow[len(slow)-1] > 0
	}
	return slow, fast, open
}

// worked returns the time and the fuel of some metres of a track, and whether it is open.
func (a asked) worked(track int, back bool, m int) (time, fuel api.Span, open bool) {
	slow, fast, open := a.speeds(track, back)
	if !open {
		return api.Span{}, api.Span{}, false
	}
	time = span(10*m/fast[0], 0)
	for i := range slow {
		time.Lo = min(time.Lo, 10*m/fast[i])
		time.Hi = max(time.Hi, (10*m+slow[i]-1)/slow[i])
	}
	return time, span(time.Lo*a.p.Burn.Lo/60, (time.Hi*a.p.Burn.Hi+59)/60), true
}

// costs returns the fuel of a track, and whether it is open.
func (a asked) costs(track int, back bool) (int, bool) {
	_, fuel, open := a.worked(track, back, lengthOf(a.c.Tracks[track]))
	return fuel.Hi, open
}

// plan is a route with open tracks, its fuel, and the site that it leads to.
type plan struct {
	tracks   []int
	fuel, at int
}

func (p plan) isBefore(q plan) bool {
	return cmp.Or(cmp.Compare(p.fuel, q.fuel), cmp.Compare(len(p.tracks), len(q.tracks)), slices.Compare(p.tracks, q.tracks)) < 0
}

// plansFrom yields all plans from a site that have at most as many tracks as there are sites: one more than any best route has.
func (a asked) plansFrom(from int) iter.Seq[plan] {
	return func(yield func(p plan) bool) {
		plans := []plan{{at: from}}
		for len(plans) > 0 {
			p := plans[len(plans)-1]
			plans = plans[:len(plans)-1]
			if !yield(p) {
				return
			}
			for i, t := range a.c.Tracks {
				if t.A != p.at && t.B != p.at || len(p.tracks) == len(a.c.Ports) {
					continue
				}
				to, back := otherEnd(a.c, p.at, i)
				if fuel, open := a.costs(i, back); open {
					plans = append(plans, plan{append(slices.Clone(p.tracks), i), p.fuel + fuel, to})
				}
			}
		}
	}
}

// alternate returns the alternate of a site, and whether it has one.
func (a asked) alternate(site int) (best plan, found bool) {
	for p := range a.plansFrom(site) {
		if a.c.Ports[p.at] && (!found || p.isBefore(best)) {
			best, found = p, true
		}
	}
	return best, found
}
