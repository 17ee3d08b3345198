package route_test

import (
	"math"
	"math/rand"
	"slices"
	"testing"

	"ballonet/api"
	"ballonet/route"
)

// roomy returns a list with room behind it, in which there is something else.
func roomy[T any](l []T, behind T) []T {
	return append(slices.Clone(l), slices.Repeat([]T{behind}, 5)...)[:len(l)]
}

// watched returns a roomy list, and adds what checks that all of its memory is as it was.
func watched[T any](t *testing.T, checks *[]func(), l []T, behind T, same func(a, b T) bool) []T {
	l = roomy(l, behind)
	before := slices.Clone(l[:cap(l)])
	*checks = append(*checks, func() {
		if !slices.EqualFunc(l[:cap(l)], before, same) {
			t.Error("changed", before, "to", l[:cap(l)])
		}
	})
	return l
}

func equal[T comparable](a, b T) bool { return a == b }

// isSameMemory reports whether two lists are the same one.
func isSameMemory(a, b []api.Gale) bool {
	return len(a) == len(b) && cap(a) == cap(b) && (len(a) == 0 || &a[0] == &b[0])
}

// watchedAsked returns what is asked, with room behind all of its lists.
func watchedAsked(t *testing.T, checks *[]func(), a asked) asked {
	a.c.Ports = watched(t, checks, a.c.Ports, true, equal)
	a.c.Tracks = watched(t, checks, a.c.Tracks, track(0, 1, 1, 0, 0), equal)
	a.f = slices.Clone(a.f)
	for i := range a.f {
		a.f[i] = watched(t, checks, a.f[i], api.Gale{Height: 7}, equal)
	}
	a.f = watched(t, checks, a.f, winds(only(0), only(0)), isSameMemory)
	return a
}

// callAll calls all functions.
func (a asked) callAll(g api.Terrain, from, to int, l []int, fuel int) {
	route.CheckTerrain(g)
	route.Pass(g, from, to)
	route.CheckChart(a.c)
	route.CheckPace(a.p)
	route.CheckCast(a.f)
	route.Length(a.c, to)
	a.part(to, true, fuel)
	a.best(from, to)
	a.need(from)
	a.check(from, l, fuel)
	a.alternates(from, l, fuel)
	a.least(from, l)
	a.noReturn(from, l, fuel)
	a.equal(from, l)
}

// R3: arguments are only read, also what is behind their lists.
func TestP1Untouched(t *testing.T) {
	r := rand.New(rand.NewSource(74))
	for range 300 {
		var checks []func()
		a := watchedAsked(t, &checks, someAsked(r))
		g := someTerrain(r, 5)
		g.Ground = watched(t, &checks, g.Ground, -7, equal)
		from, to := r.Intn(len(a.c.Ports)), r.Intn(len(a.c.Ports))
		l := watched(t, &checks, someRoute(r, a.c, from, 5), 0, equal)
		a.callAll(g, from, to, l, r.Intn(3000))
		for _, check := range checks {
			check()
		}
	}
}

// again checks that a result that is written over, with its room, is not in that of another call.
func again[T comparable](t *testing.T, name string, call func() []T, with T) {
	t.Helper()
	first := call()
	want := slices.Clone(first)
	for i := range first[:cap(first)] {
		first[:cap(first)][i] = with
	}
	if got := call(); !slices.Equal(got, want) || len(want) == 0 {
		t.Error(name, got, "want", want)
	}
}

// R3: results share no memory with arguments, nor with one another, nor with the results of other calls.
func TestP1NewMemory(t *testing.T) {
	g, a, l := hills(), plain(), []int{0, 1}
	again(t, "Pass", func() []int { _, path, _ := route.Pass(g, 0, 2); return path }, 7)
	again(t, "Best", func() []int { l, _, _ := a.best(0, 2); return l }, 7)
	if !slices.Equal(g.Ground, hills().Ground) || !slices.Equal(a.c.Tracks, plain().c.Tracks) {
		t.Error("changed", g, a)
	}
	// The same site again and again: each time its alternate is another list.
	b := tour()
	there := []int{0, 0, 0, 0, 0}
	for i := range 6 {
		all, e := b.alternates(0, there, api.MaxBound)
		if e != api.OK || len(all) != 6 {
			t.Fatal(all, e)
		}
		for j := range all[i][:cap(all[i])] {
			all[i][:cap(all[i])][j] = 7
		}
		for k := range all {
			want := [][]int{nil, {0}}[k%2]
			if k != i && !slices.Equal(all[k], want) {
				t.Error(i, k, all[k], want)
			}
		}
	}
	if all, e := b.alternates(0, there, api.MaxBound); e != api.OK || !isLists(all, [][]int{nil, {0}, nil, {0}, nil, {0}}) {
		t.Error(all, e)
	}
	if !slices.Equal(there, []int{0, 0, 0, 0, 0}) {
		t.Error("changed", there)
	}
	if n, e := a.least(0, l); e != api.OK || n != 740 || !slices.Equal(l, []int{0, 1}) {
		t.Error(n, e, l)
	}
}

// R4: lists that are nil and lists that are empty are the same.
func TestP1Empty(t *testing.T) {
	for _, tracks := range [][]api.Track{nil, {}, make([]api.Track, 0, 9)} {
		a := still([]bool{true}, tracks...)
		a.c.Tracks = tracks
		for _, l := range [][]int{nil, {}, make([]int, 0, 9)} {
			if at, e := a.check(0, l, 0); e != api.OK || at != 0 {
				t.Error(at, e)
			}
			if all, e := a.alternates(0, l, 0); e != api.OK || !isLists(all, [][]int{nil}) {
				t.Error(all, e)
			}
			if n, e := a.least(0, l); e != api.OK || n != 0 {
				t.Error(n, e)
			}
			if p, e := a.noReturn(0, l, 0); e != api.ErrArg || p != (api.Point{}) {
				t.Error(p, e)
			}
			if p, e := a.equal(0, l); e != api.ErrArg || p != (api.Point{}) {
				t.Error(p, e)
			}
		}
		if l, fuel, e := a.best(0, 0); e != api.OK || fuel != 0 || len(l) > 0 {
			t.Error(l, fuel, e)
		}
	}
	for _, f := range [][][]api.Gale{nil, {}, make([][]api.Gale, 0, 9)} {
		if e := route.CheckCast(f); e != api.ErrMany {
			t.Error(e)
		}
	}
	for _, w := range [][]api.Gale{nil, {}, make([]api.Gale, 0, 9)} {
		if e := route.CheckCast([][]api.Gale{w}); e != api.ErrWind {
			t.Error(e)
		}
	}
}

// The same call has the same result, also if what is known of tracks was asked in another order.
func TestP1Same(t *testing.T) {
	r := rand.New(rand.NewSource(75))
	for range 100 {
		a := someAsked(r)
		from, to := r.Intn(len(a.c.Ports)), r.Intn(len(a.c.Ports))
		l, fuel, e := a.best(from, to)
		for range 5 {
			if again, f, g := a.best(from, to); !slices.Equal(again, l) || f != fuel || g != e {
				t.Fatal(a, from, to, again, f, g, "and", l, fuel, e)
			}
		}
	}
}

// wild returns any number, most often one at which something overflows or ends.
func wild(r *rand.Rand) int {
	base := []int{0, 0, 1, 2, 12, 20, 24, 40, 500, 1000, 2000, 7000, 9000, api.MaxBurn, api.MaxDry, api.MaxBound, 1 << 31, 1 << 32, 1 << 62, math.MaxInt, math.MinInt}
	n := base[r.Intn(len(base))] + r.Intn(3) - 1
	if r.Intn(2) == 0 {
		return -n
	}
	return n
}

// wildOne puts something wild into one of some numbers, now and then.
func wildOne(r *rand.Rand, n ...*int) {
	if r.Intn(8) == 0 {
		*n[r.Intn(len(n))] = wild(r)
	}
}

func wildAsked(r *rand.Rand) asked {
	a := someAsked(r)
	if len(a.c.Tracks) > 0 {
		x := &a.c.Tracks[r.Intn(len(a.c.Tracks))]
		wildOne(r, &x.A, &x.B, &x.X, &x.Y, &x.X, &x.Y, &x.Least)
	}
	wildOne(r, &a.p.Speed, &a.p.Cruise, &a.p.Margin, &a.p.Top, &a.p.Reserve, &a.p.Burn.Lo, &a.p.Burn.Hi)
	gale := &a.f[r.Intn(len(a.f))][0]
	wildOne(r, &gale.Height, &gale.Gust, &gale.Wind.X.Lo, &gale.Wind.X.Hi, &gale.Wind.Y.Lo, &gale.Wind.Y.Hi)
	switch r.Intn(40) {
	case 0:
		a.f = slices.Repeat(a.f, 1+r.Intn(4))
	case 1:
		a.c.Ports = slices.Repeat(a.c.Ports, 1+r.Intn(9))
	case 2:
		a.c.Tracks = slices.Repeat(a.c.Tracks, 1+r.Intn(20))
	}
	return a
}

func wildRoute(r *rand.Rand, c api.Chart, from int) []int {
	if route.CheckChart(c) != api.OK || from < 0 || from >= len(c.Ports) {
		return slices.Repeat([]int{wild(r)}, r.Intn(30))
	}
	l := someRoute(r, c, from, 21)
	if len(l) > 0 {
		wildOne(r, &l[r.Intn(len(l))])
	}
	return l
}

// checker notes what is not as it has to be: what is returned is right in itself, and nothing is beside an error.
type checker struct {
	t   *testing.T
	oks map[string]int
}

func (c checker) check(name string, e api.Errno, valid, zero bool) {
	c.t.Helper()
	if e == api.OK {
		c.oks[name]++
	}
	if e == api.OK && !valid || e != api.OK && !zero {
		c.t.Error(name, e, valid, zero)
	}
}

func isSpan(s api.Span, most int) bool { return 0 <= s.Lo && s.Lo <= s.Hi && s.Hi <= most }

// R2, R5, R6 and R7: whatever the arguments are, every call ends without a panic, and nothing is beside an error.
func TestP1Wild(t *testing.T) {
	r := rand.New(rand.NewSource(76))
	c := checker{t, map[string]int{}}
	for range 12000 {
		a := wildAsked(r)
		from, to, fuel := r.Intn(len(a.c.Ports)), r.Intn(len(a.c.Ports)), r.Intn(4000)
		wildOne(r, &from, &to, &fuel)
		n, e := route.Length(a.c, to)
		c.check("Length", e, 100 <= n && n <= 989950, n == 0)
		time, burnt, e := a.part(to, r.Intn(2) == 0, fuel)
		c.check("Part", e, isSpan(time, api.MaxBound) && isSpan(burnt, api.MaxBound), time == only(0) && burnt == only(0))
		best, needs, e := a.best(from, to)
		c.check("Best", e, len(best) < len(a.c.Ports) && needs >= 0, len(best) == 0 && needs == 0)
		needs, e = a.need(from)
		c.check("Need", e, needs >= a.p.Reserve, needs == 0)
		a.callRoutes(c, from, wildRoute(r, a.c, from), fuel)
		g := someTerrain(r, 5)
		wildOne(r, &g.W, &g.H, &g.Ground[r.Intn(len(g.Ground))])
		h, path, e := route.Pass(g, from, to)
		c.check("Pass", e, slices.Contains(g.Ground, h) && isPath(g, path, from, to), h == 0 && len(path) == 0)
	}
	for _, name := range []string{"Length", "Part", "Best", "Need", "Check", "Alternates", "Least", "NoReturn", "Equal", "Pass"} {
		if c.oks[name] < 100 {
			t.Error("hardly anything is valid:", c.oks)
		}
	}
}

// callRoutes calls all functions with a route.
func (a asked) callRoutes(c checker, from int, l []int, fuel int) {
	site, e := a.check(from, l, fuel)
	c.check("Check", e, site == len(l), site == 0 || (e == api.ErrFuel || e == api.ErrClosed) && site <= len(l))
	all, e := a.alternates(from, l, fuel)
	c.check("Alternates", e, len(all) == len(l)+1, len(all) == 0)
	least, e := a.least(from, l)
	c.check("Least", e, 0 <= least && least <= api.MaxBound, least == 0)
	isPoint := func(p api.Point) bool {
		return p.Hop >= 0 && p.Hop < len(l) && p.Metres >= 0 && p.Metres <= lengthOf(a.c.Tracks[l[p.Hop]])
	}
	p, e := a.noReturn(from, l, fuel)
	c.check("NoReturn", e, e == api.OK && isPoint(p), p == api.Point{})
	p, e = a.equal(from, l)
	c.check("Equal", e, e == api.OK && isPoint(p), p == api.Point{})
}

// R7: lists of any length are refused at once.
func TestP1Long(t *testing.T) {
	const n = 1 << 20
	good := plain()
	long := good
	long.c.Ports = make([]bool, n)
	long.refusesRoutes(t, 0, nil, 740, api.ErrChart)
	long = good
	long.c.Tracks = slices.Repeat(good.c.Tracks, n)
	long.refusesRoutes(t, 0, nil, 740, api.ErrChart)
	long = good
	long.f = make([][]api.Gale, n)
	long.refusesRoutes(t, 0, nil, 740, api.ErrMany)
	long = good
	long.f = [][]api.Gale{make([]api.Gale, n)}
	long.refusesRoutes(t, 0, nil, 740, api.ErrWind)
	good.refusesRoutes(t, 0, make([]int, n), 740, api.ErrMany)
	if e := route.CheckTerrain(api.Terrain{W: 24, H: 24, Ground: make([]int, n)}); e != api.ErrGround {
		t.Error(e)
	}
}

// R7: the largest chart that there may be, with the longest route and all members, is done with at once.
func TestP1Largest(t *testing.T) {
	a := still(make([]bool, api.MaxSites))
	a.c.Ports[0] = true
	for i := range api.MaxTracks {
		a.c.Tracks = append(a.c.Tracks, track(i%12, (i+1+i/12)%12, 7000-i, 5000+i, 9000))
	}
	var gales []api.Gale
	for i := range api.MaxLevels {
		gales = append(gales, api.Gale{Height: 500 * i, Gust: i})
	}
	a.f, a.p.Speed = [][]api.Gale{gales, gales, gales, gales}, 200
	l := slices.Repeat([]int{0}, api.MaxHops)
	least, e := a.least(0, l)
	if at, f := a.check(0, l, least); e != api.OK || f != api.OK || at != api.MaxHops {
		t.Error(least, e, at, f)
	}
	if p, e := a.equal(0, l); e != api.OK || p != at(10, 0) {
		t.Error(p, e)
	}
	if p, e := a.noReturn(0, l, math.MaxInt); e != api.OK || p.Hop != 19 {
		t.Error(p, e)
	}
}
