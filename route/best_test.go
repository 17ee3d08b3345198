package route_test

import (
	"math"
	"math/rand"
	"slices"
	"testing"

	"ballonet/api"
	"ballonet/route"
)

func (a asked) best(from, to int) ([]int, int, api.Errno) {
	return route.Best(a.c, a.p, a.f, from, to)
}

func (a asked) need(site int) (int, api.Errno) { return route.Need(a.c, a.p, a.f, site) }

func TestP6_3Examples(t *testing.T) {
	a := plain()
	for i, x := range []struct {
		from, to, fuel int
		want           []int
	}{
		{0, 2, 640, []int{0, 1}}, {0, 1, 358, []int{0}}, {1, 2, 282, []int{1}}, {2, 1, 488, []int{1}}, {1, 0, 1021, []int{0}},
		{2, 0, 1509, []int{1, 0}}, {0, 0, 0, nil}, {1, 1, 0, nil},
	} {
		if l, fuel, e := a.best(x.from, x.to); e != api.OK || fuel != x.fuel || !slices.Equal(l, x.want) {
			t.Error(i, l, fuel, e)
		}
	}
	for site, want := range []int{100, 382, 100} {
		if n, e := a.need(site); e != api.OK || n != want {
			t.Error(site, n, e)
		}
	}
}

func TestP6_3Errors(t *testing.T) {
	a := plain()
	check := func(a asked, from, to int, want api.Errno) {
		t.Helper()
		if l, fuel, e := a.best(from, to); e != want || len(l) > 0 || fuel != 0 {
			t.Error(from, to, l, fuel, e)
		}
	}
	for _, site := range []int{-1, 3, math.MinInt, math.MaxInt} {
		check(a, site, 0, api.ErrArg)
		check(a, 0, site, api.ErrArg)
		check(a, site, site, api.ErrArg)
		if n, e := a.need(site); e != api.ErrArg || n != 0 {
			t.Error(site, n, e)
		}
	}
	// No port can be reached from 1: one track is closed, the other one leads to no port.
	a.c.Ports[0] = false
	a.p.Top = 600
	a.c.Tracks[1].Least = 401
	check(a, 0, 2, api.ErrNone)
	check(a, 0, 1, api.ErrNone)
	if n, e := a.need(1); e != api.ErrNone || n != 0 {
		t.Error(n, e)
	}
	if n, e := a.need(2); e != api.OK || n != 100 {
		t.Error(n, e)
	}
	// It is open one way only: the wind that blows to the east is too fast to fly back.
	a = plain()
	a.f = [][]api.Gale{winds(only(200), only(0))}
	check(a, 2, 1, api.ErrNone)
	if l, fuel, e := a.best(1, 2); e != api.OK || fuel != 150 || !slices.Equal(l, []int{1}) {
		t.Error(l, fuel, e)
	}
	a.c.Ports = []bool{true, false, false}
	if n, e := a.need(2); e != api.ErrNone || n != 0 {
		t.Error(n, e)
	}
	// A chart without tracks, and one without ports.
	alone := still([]bool{false})
	if n, e := alone.need(0); e != api.ErrNone || n != 0 {
		t.Error(n, e)
	}
	if l, fuel, e := alone.best(0, 0); e != api.OK || fuel != 0 || len(l) > 0 {
		t.Error(l, fuel, e)
	}
	// A site to which no track leads.
	apart := still([]bool{true, true, true}, track(0, 1, 1, 0, 0))
	check(apart, 0, 2, api.ErrNone)
	check(apart, 2, 0, api.ErrNone)
}

// Of several routes the one with the least fuel, of these one with the fewest tracks, of these the first one.
func TestP6_3Ties(t *testing.T) {
	ports := []bool{false, false, false, true}
	for i, x := range []struct {
		a    asked
		fuel int
		want []int
	}{
		// Less fuel with more tracks.
		{still(ports, track(0, 3, 1, 1, 0), track(0, 1, 0, 1, 0), track(1, 3, 1, 0, 0)), 142, []int{0}},
		{still(ports, track(0, 3, 0, 3, 0), track(0, 1, 0, 1, 0), track(1, 3, 1, 0, 0)), 200, []int{1, 2}},
		{still(ports, track(0, 3, 0, 4, 0), track(1, 0, 0, 1, 0), track(1, 2, 1, 0, 0), track(3, 2, 1, 0, 0)), 300, []int{1, 2, 3}},
		// The same fuel with fewer tracks, though these come later.
		{still(ports, track(0, 1, 0, 1, 0), track(1, 3, 1, 0, 0), track(0, 3, 0, 2, 0)), 200, []int{2}},
		{still(ports, track(0, 1, 0, 1, 0), track(1, 2, 1, 0, 0), track(2, 3, 1, 0, 0), track(0, 2, 0, 2, 0)), 300, []int{3, 2}},
		// The same fuel and as many tracks: the first one in lexicographic order.
		{still(ports, track(0, 3, 0, 2, 0), track(3, 0, 2, 0, 0)), 200, []int{0}},
		{still(ports, track(2, 3, 0, 2, 0), track(0, 1, 2, 0, 0), track(0, 2, 2, 0, 0), track(1, 3, 2, 0, 0)), 400, []int{1, 3}},
		{still(ports, track(1, 3, 0, 2, 0), track(0, 2, 2, 0, 0), track(0, 1, 2, 0, 0), track(2, 3, 2, 0, 0)), 400, []int{1, 3}},
		{still(ports, track(1, 3, 0, 2, 0), track(0, 2, 2, 0, 0), track(1, 0, 2, 0, 0), track(2, 3, 2, 1, 0)), 400, []int{2, 0}},
		// In numbers, not in digits: 2 is before 10.
		{still(ports, append(slices.Repeat([]api.Track{track(1, 2, 1, 0, 0)}, 2), append([]api.Track{track(0, 3, 5, 0, 0)}, append(slices.Repeat([]api.Track{track(1, 2, 1, 0, 0)}, 7), track(0, 3, 5, 0, 0))...)...)...), 500, []int{2}},
	} {
		if l, fuel, e := x.a.best(0, 3); e != api.OK || fuel != x.fuel || !slices.Equal(l, x.want) {
			t.Error(i, l, fuel, e)
		}
		x.a.p.Reserve = 7
		if n, e := x.a.need(0); e != api.OK || n != x.fuel+7 {
			t.Error(i, n, e)
		}
	}
	// Without any fuel the fewest tracks are the best.
	a := still(ports, track(0, 1, 1, 0, 0), track(1, 3, 1, 0, 0), track(0, 3, 7000, 7000, 0))
	a.p.Burn = only(0)
	if l, fuel, e := a.best(0, 3); e != api.OK || fuel != 0 || !slices.Equal(l, []int{2}) {
		t.Error(l, fuel, e)
	}
}

// The longest best route there is, with the most fuel, from the last of all sites to the first one.
func TestP6_3Longest(t *testing.T) {
	a := still(make([]bool, 12))
	a.c.Ports[0] = true
	a.p.Speed, a.p.Burn, a.p.Reserve = 1, only(api.MaxBurn), api.MaxDry
	var want []int
	for i := range 11 {
		a.c.Tracks = append(a.c.Tracks, track(i, i+1, 7000, 7000, 0))
		want = append(want, 10-i)
	}
	if l, fuel, e := a.best(11, 0); e != api.OK || fuel != 11*164991666667 || !slices.Equal(l, want) {
		t.Error(l, fuel, e)
	}
	if n, e := a.need(11); e != api.OK || n != 11*164991666667+api.MaxDry {
		t.Error(n, e)
	}
}

// P6.3 and P6.9: no route has less fuel than the best one; of those with as much, and as many tracks, it is the first one.
func TestP6_9AllRoutes(t *testing.T) {
	r := rand.New(rand.NewSource(63))
	none, some := 0, 0
	for range 900 {
		a := someAsked(r)
		from, to := r.Intn(len(a.c.Ports)), r.Intn(len(a.c.Ports))
		want, found := plan{}, false
		for p := range a.plansFrom(from) {
			if p.at == to && (!found || p.isBefore(want)) {
				want, found = p, true
			}
		}
		l, fuel, e := a.best(from, to)
		if !found {
			none++
			if e != api.ErrNone {
				t.Fatal(a, from, to, l, fuel, e)
			}
			continue
		}
		some++
		if e != api.OK || fuel != want.fuel || !slices.Equal(l, want.tracks) {
			t.Fatal(a, from, to, l, fuel, e, "want", want)
		}
	}
	if none < 50 || some < 400 {
		t.Error("hardly any of one kind:", none, some)
	}
}

// P6.3: what a site needs is Reserve more than the least fuel of a best route to a port.
func TestP6_3NeedIsBest(t *testing.T) {
	r := rand.New(rand.NewSource(64))
	for range 500 {
		a := someAsked(r)
		site := r.Intn(len(a.c.Ports))
		want, found := 0, false
		for port, isPort := range a.c.Ports {
			if _, fuel, e := a.best(site, port); isPort && e == api.OK && (!found || fuel < want) {
				want, found = fuel, true
			}
		}
		n, e := a.need(site)
		if found && (e != api.OK || n != want+a.p.Reserve) || !found && (e != api.ErrNone || n != 0) {
			t.Fatal(a, site, n, e, "want", want)
		}
	}
}
