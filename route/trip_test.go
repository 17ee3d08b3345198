package route_test

import (
	"math"
	"math/rand"
	"slices"
	"testing"

	"ballonet/api"
	"ballonet/route"
)

func (a asked) check(from int, l []int, fuel int) (int, api.Errno) {
	return route.Check(a.c, a.p, a.f, from, l, fuel)
}

func (a asked) alternates(from int, l []int, fuel int) ([][]int, api.Errno) {
	return route.Alternates(a.c, a.p, a.f, from, l, fuel)
}

func (a asked) least(from int, l []int) (int, api.Errno) {
	return route.Least(a.c, a.p, a.f, from, l)
}

// isLists reports whether two lists of lists are the same, where nil and empty are.
func isLists(a, b [][]int) bool { return slices.EqualFunc(a, b, slices.Equal) }

func TestP6_4Examples(t *testing.T) {
	a, l := plain(), []int{0, 1}
	for i, x := range []struct {
		fuel, at int
		e        api.Errno
	}{
		{740, 2, api.OK}, {739, 1, api.ErrFuel}, {100, 1, api.ErrFuel}, {99, 0, api.ErrFuel}, {0, 0, api.ErrFuel}, {api.MaxBound, 2, api.OK},
	} {
		if at, e := a.check(0, l, x.fuel); e != x.e || at != x.at {
			t.Error(i, at, e)
		}
		all, e := a.alternates(0, l, x.fuel)
		if e != x.e || e == api.OK && !isLists(all, [][]int{nil, {1}, nil}) || e != api.OK && len(all) > 0 {
			t.Error(i, all, e)
		}
	}
	if n, e := a.least(0, l); e != api.OK || n != 740 {
		t.Error(n, e)
	}
}

// R1 and R2: the errors of a route, in order, with nothing beside them.
func TestP6_4RouteErrors(t *testing.T) {
	closed := plain()
	closed.p.Top = 0
	thereAndBack := slices.Repeat([]int{0}, 21)
	for _, a := range []asked{plain(), closed} {
		for _, fuel := range []int{-1, 0, 740, api.MaxBound + 1} {
			a.refusesRoutes(t, 0, thereAndBack, fuel, api.ErrMany)
			a.refusesRoutes(t, -1, slices.Repeat([]int{-1}, 21), fuel, api.ErrMany)
			a.refusesRoutes(t, 0, make([]int, 1<<20), fuel, api.ErrMany)
			for _, n := range []int{-1, 3, math.MinInt, math.MaxInt} {
				a.refusesRoutes(t, n, nil, fuel, api.ErrArg)
				a.refusesRoutes(t, n, []int{0}, fuel, api.ErrArg)
			}
			for _, n := range []int{-1, 2, math.MinInt, math.MaxInt} {
				a.refusesRoutes(t, 0, []int{n}, fuel, api.ErrArg)
				a.refusesRoutes(t, 0, []int{0, n}, fuel, api.ErrArg)
				a.refusesRoutes(t, 0, []int{n, 0}, fuel, api.ErrArg)
			}
			// Tracks from other sites than the one that is reached.
			a.refusesRoutes(t, 0, []int{1}, fuel, api.ErrArg)
			a.refusesRoutes(t, 2, []int{0}, fuel, api.ErrArg)
			a.refusesRoutes(t, 0, []int{0, 0, 1}, fuel, api.ErrArg)
			a.refusesRoutes(t, 1, []int{1, 0}, fuel, api.ErrArg)
			a.refusesRoutes(t, 0, append(thereAndBack[:19:19], 1, 0), fuel, api.ErrMany)
			a.refusesRoutes(t, 0, append(thereAndBack[:18:18], 1), fuel, api.ErrArg)
		}
	}
}

// The fuel is checked after the route, and before what is on the way.
func TestP6_4FuelErrors(t *testing.T) {
	closed := plain()
	closed.p.Top = 0
	for _, a := range []asked{plain(), closed} {
		for _, fuel := range []int{-1, api.MaxBound + 1, math.MinInt, math.MaxInt} {
			for _, l := range [][]int{nil, {0}, {0, 1}} {
				if at, e := a.check(0, l, fuel); e != api.ErrArg || at != 0 {
					t.Error(at, e)
				}
				if all, e := a.alternates(0, l, fuel); e != api.ErrArg || len(all) > 0 {
					t.Error(all, e)
				}
			}
		}
	}
}

// tour is a chart without wind: from a port 0 by 1, 2 and 3, a track of which is closed, to a port 4; from 1 and 2 there are ways back, and from 5 there is none.
func tour() asked {
	a := still([]bool{true, false, false, false, true, false},
		track(0, 1, 3, 0, 0), track(1, 2, 4, 0, 0), track(2, 3, 5, 0, 9000), track(3, 4, 6, 0, 0),
		track(2, 0, 0, 2, 0), track(1, 5, 1, 0, 9000),
	)
	a.p.Top, a.p.Reserve = 8999, 50
	return a
}

func TestP6_4Check(t *testing.T) {
	for i, x := range []struct {
		from int
		l    []int
		fuel int
		at   int
		e    api.Errno
	}{
		// No tracks: what the one site needs.
		{0, nil, 50, 0, api.OK},
		{0, nil, 49, 0, api.ErrFuel},
		{1, nil, 350, 0, api.OK},
		{1, nil, 349, 0, api.ErrFuel},
		{5, nil, api.MaxBound, 0, api.ErrFuel},
		// 1 needs 300 to get back, 2 needs 200, 3 needs 600.
		{0, []int{0}, 650, 1, api.OK},
		{0, []int{0}, 649, 1, api.ErrFuel},
		{0, []int{0, 1}, 950, 2, api.OK},
		{0, []int{0, 1}, 949, 2, api.ErrFuel},
		{0, []int{0, 1}, 650, 2, api.ErrFuel},
		{0, []int{0, 1}, 649, 1, api.ErrFuel},
		{0, []int{0, 1, 4}, 950, 3, api.OK},
		{0, []int{0, 0, 0}, 1250, 3, api.OK},
		{0, []int{0, 0, 0}, 1249, 3, api.ErrFuel},
		{4, []int{3, 3}, 1250, 2, api.OK},
		{4, []int{3, 3}, 1249, 1, api.ErrFuel},
		{4, []int{3}, 1250, 1, api.OK},
		// Less is left than nothing.
		{0, []int{0, 1}, 50, 1, api.ErrFuel},
		{4, []int{3}, 599, 1, api.ErrFuel},
		// A closed track: from the site where it begins, unless the fuel is too little there.
		{0, []int{0, 1, 2}, 950, 2, api.ErrClosed},
		{0, []int{0, 1, 2}, 949, 2, api.ErrFuel},
		{0, []int{0, 1, 2, 3}, 950, 2, api.ErrClosed},
		{0, []int{0, 1, 2, 2, 1}, 950, 2, api.ErrClosed},
		{3, []int{2}, 650, 0, api.ErrClosed},
		{3, []int{2}, 649, 0, api.ErrFuel},
		// It is closed before the site that it leads to has no port; from there it is the other way round.
		{1, []int{5}, api.MaxBound, 0, api.ErrClosed},
		{5, []int{5}, api.MaxBound, 0, api.ErrFuel},
	} {
		a := tour()
		if at, e := a.check(x.from, x.l, x.fuel); e != x.e || at != x.at {
			t.Error(i, at, e)
		}
		if all, e := a.alternates(x.from, x.l, x.fuel); e != x.e || (e == api.OK) != (len(all) == len(x.l)+1) {
			t.Error(i, all, e)
		}
	}
}

func TestP6_5Alternates(t *testing.T) {
	a := tour()
	for i, x := range []struct {
		from int
		l    []int
		want [][]int
	}{
		{0, nil, [][]int{nil}},
		{2, nil, [][]int{{4}}},
		{0, []int{0, 1, 4}, [][]int{nil, {0}, {4}, nil}},
		{0, []int{0, 0, 0}, [][]int{nil, {0}, nil, {0}}},
		{4, []int{3, 3}, [][]int{nil, {3}, nil}},
	} {
		if all, e := a.alternates(x.from, x.l, api.MaxBound); e != api.OK || !isLists(all, x.want) {
			t.Error(i, all, e)
		}
	}
	// Of several ports the one with the least fuel, of these one with the fewest tracks, of these the first route.
	ports := []bool{false, true, true, true, false}
	for i, x := range []struct {
		a    asked
		want []int
	}{
		{still(ports, track(0, 1, 3, 0, 0), track(0, 2, 2, 0, 0), track(0, 3, 4, 0, 0)), []int{1}},
		{still(ports, track(0, 4, 1, 0, 0), track(4, 2, 1, 0, 0), track(0, 3, 2, 0, 0)), []int{2}},
		{still(ports, track(0, 3, 2, 0, 0), track(0, 2, 2, 0, 0), track(0, 1, 2, 0, 0)), []int{0}},
		{still(ports, track(4, 1, 2, 0, 0), track(0, 4, 1, 0, 0), track(4, 3, 1, 0, 0), track(4, 2, 1, 0, 0)), []int{1, 2}},
	} {
		if all, e := x.a.alternates(0, nil, api.MaxBound); e != api.OK || !isLists(all, [][]int{x.want}) {
			t.Error(i, all, e)
		}
	}
}

func TestP6_5Least(t *testing.T) {
	for i, x := range []struct {
		from int
		l    []int
		want int
		e    api.Errno
	}{
		{0, nil, 50, api.OK},
		{1, nil, 350, api.OK},
		{0, []int{0}, 650, api.OK},
		{0, []int{0, 1}, 950, api.OK},
		{0, []int{0, 1, 4}, 950, api.OK},
		{0, []int{0, 0, 0}, 1250, api.OK},
		// What the site on the way needs is more than what is needed up to the end.
		{4, []int{3, 3}, 1250, api.OK},
		{0, []int{0, 1, 2}, 0, api.ErrNone},
		{3, []int{2}, 0, api.ErrNone},
		{1, []int{5}, 0, api.ErrNone},
		{5, nil, 0, api.ErrNone},
	} {
		if n, e := tour().least(x.from, x.l); e != x.e || n != x.want {
			t.Error(i, n, e)
		}
	}
	a := tour()
	a.p.Burn, a.p.Reserve = only(0), 0
	if n, e := a.least(0, []int{0, 1, 4}); e != api.OK || n != 0 {
		t.Error(n, e)
	}
	if at, e := a.check(0, []int{0, 1, 4}, 0); e != api.OK || at != 3 {
		t.Error(at, e)
	}
}

// At MaxBound: there and back again, by a track that needs an eighth of it.
func TestP6_5Bound(t *testing.T) {
	a := still([]bool{true, false}, track(0, 1, 7000, 4359, 0))
	a.p.Speed, a.p.Burn = 1, only(api.MaxBurn)
	_, fuel, _ := a.best(1, 0)
	for n := range 21 {
		l := slices.Repeat([]int{0}, n)
		want := (n + n%2) * fuel
		got, e := a.least(0, l)
		if want <= api.MaxBound && (e != api.OK || got != want) || want > api.MaxBound && (e != api.ErrNone || got != 0) {
			t.Error(n, got, e, "want", want)
		}
	}
	// One of the reserve is what is too much.
	a.p.Reserve = api.MaxBound % fuel
	if n := api.MaxBound / fuel; n != 8 || a.p.Reserve > api.MaxDry {
		t.Fatal(n, a.p.Reserve)
	}
	l := slices.Repeat([]int{0}, 8)
	if n, e := a.least(0, l); e != api.OK || n != api.MaxBound {
		t.Error(n, e)
	}
	if at, e := a.check(0, l, api.MaxBound); e != api.OK || at != 8 {
		t.Error(at, e)
	}
	if at, e := a.check(0, l, api.MaxBound-1); e != api.ErrFuel || at != 7 {
		t.Error(at, e)
	}
	a.p.Reserve++
	if n, e := a.least(0, l); e != api.ErrNone || n != 0 {
		t.Error(n, e)
	}
	if at, e := a.check(0, l, api.MaxBound); e != api.ErrFuel || at != 7 {
		t.Error(at, e)
	}
}

// wayChecked goes along a route as P6.4 tells it.
func (a asked) wayChecked(from int, l []int, fuel int) (at int, e api.Errno) {
	for i := 0; ; i++ {
		if alternate, found := a.alternate(from); !found || fuel < alternate.fuel+a.p.Reserve {
			return i, api.ErrFuel
		}
		if i == len(l) {
			return i, api.OK
		}
		to, back := otherEnd(a.c, from, l[i])
		needs, open := a.costs(l[i], back)
		if !open {
			return i, api.ErrClosed
		}
		from, fuel = to, fuel-needs
	}
}

// P6.4, P6.5 and P6.9: Check goes as it is told, Least is accepted, and one less is not.
func TestP6_9Least(t *testing.T) {
	r := rand.New(rand.NewSource(65))
	kinds := map[api.Errno]int{}
	for range 500 {
		a := someAsked(r)
		from := r.Intn(len(a.c.Ports))
		l := someRoute(r, a.c, from, 5)
		least, e := a.least(from, l)
		if e == api.ErrNone {
			if at, e := a.check(from, l, api.MaxBound); e != api.ErrFuel && e != api.ErrClosed {
				t.Fatal(a, from, l, at, e)
			}
		}
		if e == api.OK {
			if at, e := a.check(from, l, least); e != api.OK || at != len(l) {
				t.Fatal(a, from, l, least, at, e)
			}
			if at, e := a.check(from, l, least-1); least > 0 && e != api.ErrFuel {
				t.Fatal(a, from, l, least, at, e)
			}
		}
		for _, fuel := range []int{least, max(least-1, 0), r.Intn(least + 1), api.MaxBound, 0} {
			at, e := a.check(from, l, fuel)
			if wantAt, want := a.wayChecked(from, l, fuel); at != wantAt || e != want {
				t.Fatal(a, from, l, fuel, at, e, "want", wantAt, want)
			}
			kinds[e]++
		}
	}
	if kinds[api.OK] < 300 || kinds[api.ErrFuel] < 300 || kinds[api.ErrClosed] < 20 {
		t.Error("hardly any of one kind:", kinds)
	}
}

// P6.5 and P6.9: at each site of an accepted route the fuel that is left is at least that of its alternate, and Reserve.
func TestP6_9Alternates(t *testing.T) {
	r := rand.New(rand.NewSource(66))
	tried := 0
	for range 700 {
		a := someAsked(r)
		from := r.Intn(len(a.c.Ports))
		l := someRoute(r, a.c, from, 5)
		fuel := r.Intn(2000)
		all, e := a.alternates(from, l, fuel)
		if _, want := a.check(from, l, fuel); e != want {
			t.Fatal(a, from, l, fuel, e, want)
		}
		if e != api.OK {
			continue
		}
		tried++
		if len(all) != len(l)+1 {
			t.Fatal(a, from, l, fuel, all)
		}
		site := from
		for i, alternate := range all {
			want, found := a.alternate(site)
			if !found || !slices.Equal(alternate, want.tracks) || fuel < want.fuel+a.p.Reserve {
				t.Fatal(a, from, l, fuel, all, "want", want)
			}
			if i < len(l) {
				to, back := otherEnd(a.c, site, l[i])
				needs, _ := a.costs(l[i], back)
				site, fuel = to, fuel-needs
			}
		}
	}
	if tried < 100 {
		t.Error("hardly any is accepted:", tried)
	}
}
