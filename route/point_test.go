package route_test

import (
	"math"
	"math/rand"
	"slices"
	"testing"

	"ballonet/api"
	"ballonet/route"
)

func (a asked) noReturn(from int, l []int, fuel int) (api.Point, api.Errno) {
	return route.NoReturn(a.c, a.p, a.f, from, l, fuel)
}

func (a asked) equal(from int, l []int) (api.Point, api.Errno) {
	return route.Equal(a.c, a.p, a.f, from, l)
}

func at(hop, metres int) api.Point { return api.Point{Hop: hop, Metres: metres} }

func TestP6_6Examples(t *testing.T) {
	a, l := plain(), []int{0, 1}
	if p, e := a.noReturn(0, l, 740); e != api.OK || p != at(0, 23226) {
		t.Error(p, e)
	}
	if p, e := a.equal(0, l); e != api.OK || p != at(0, 23196) {
		t.Error(p, e)
	}
}

// R1 and R2: what is wrong with a route on which nobody could come back.
func TestP6_6Errors(t *testing.T) {
	check := func(a asked, from int, l []int, fuel int, want api.Errno) {
		t.Helper()
		if p, e := a.noReturn(from, l, fuel); e != want || p != (api.Point{}) {
			t.Error("NoReturn", from, l, fuel, p, e)
		}
		if p, e := a.equal(from, l); e != want || p != (api.Point{}) {
			t.Error("Equal", from, l, p, e)
		}
	}
	closed, there, back := plain(), plain(), plain()
	closed.p.Top = 0
	there.f = [][]api.Gale{winds(only(200), only(0))}
	back.f = [][]api.Gale{winds(only(-200), only(0))}
	for _, fuel := range []int{-1, 740, math.MinInt, math.MaxInt} {
		for _, a := range []asked{plain(), closed, there, back} {
			for _, l := range [][]int{nil, {}} {
				check(a, 0, l, fuel, api.ErrArg)
			}
		}
		// Closed both ways, or only one way, at the beginning or further on.
		for _, a := range []asked{closed, there, back} {
			check(a, 1, []int{1}, fuel, api.ErrClosed)
			check(a, 2, []int{1}, fuel, api.ErrClosed)
			check(a, 2, []int{1, 0}, fuel, api.ErrClosed)
			check(a, 0, []int{0, 1}, fuel, api.ErrClosed)
		}
		far := plain()
		far.c.Tracks[1].Least = 601
		check(far, 0, []int{0, 1}, fuel, api.ErrClosed)
	}
	for _, fuel := range []int{99, 0, -1, math.MinInt} {
		if p, e := plain().noReturn(0, []int{0, 1}, fuel); e != api.ErrFuel || p != (api.Point{}) {
			t.Error(fuel, p, e)
		}
	}
}

func TestP6_6NoReturn(t *testing.T) {
	// Tracks of 300, 400 and 500 metres: each metre needs one of fuel, on the way and on the way back.
	a := still(make([]bool, 4), track(0, 1, 3, 0, 0), track(2, 1, 4, 0, 0), track(2, 3, 5, 0, 0))
	a.p.Reserve = 50
	for i, x := range []struct {
		from int
		l    []int
		fuel int
		want api.Point
	}{
		{0, []int{0, 1, 2}, 50, at(0, 0)},
		{0, []int{0, 1, 2}, 51, at(0, 0)},
		{0, []int{0, 1, 2}, 52, at(0, 1)},
		{0, []int{0, 1, 2}, 649, at(0, 299)},
		// The end of a track is the beginning of the next one, which is the last point of the two.
		{0, []int{0, 1, 2}, 650, at(1, 0)},
		{0, []int{0, 1, 2}, 651, at(1, 0)},
		{0, []int{0, 1, 2}, 652, at(1, 1)},
		{0, []int{0, 1, 2}, 1449, at(1, 399)},
		{0, []int{0, 1, 2}, 1450, at(2, 0)},
		{0, []int{0, 1, 2}, 2449, at(2, 499)},
		{0, []int{0, 1, 2}, 2450, at(2, 500)},
		{0, []int{0, 1, 2}, math.MaxInt, at(2, 500)},
		{3, []int{2, 1}, 1051, at(1, 0)},
		{3, []int{2, 1}, 1052, at(1, 1)},
		{1, []int{0, 0, 0}, 1249, at(1, 299)},
		{1, []int{0, 0, 0}, 1250, at(2, 0)},
		{1, []int{0, 0, 0}, 1850, at(2, 300)},
		{0, []int{0}, 650, at(0, 300)},
	} {
		if p, e := a.noReturn(x.from, x.l, x.fuel); e != api.OK || p != x.want {
			t.Error(i, p, e)
		}
	}
	// Where nothing is burnt the last point is the end.
	a.p.Burn = only(0)
	if p, e := a.noReturn(0, []int{0, 1, 2}, 50); e != api.OK || p != at(2, 500) {
		t.Error(p, e)
	}
	if p, e := a.noReturn(0, []int{0, 1, 2}, 49); e != api.ErrFuel || p != at(0, 0) {
		t.Error(p, e)
	}
	// Each part is rounded for itself. At 60 metres a second, with 10 and a sixtieth of fuel for each second: 51 for each track, and 11, 21, 31, 41 for up to 60, 120, 180, 240 metres of one.
	a = still(make([]bool, 3), track(0, 1, 3, 0, 0), track(1, 2, 3, 0, 0))
	a.p.Speed, a.p.Burn = 600, only(601)
	for i, x := range []struct {
		fuel int
		want api.Point
	}{{0, at(0, 0)}, {21, at(0, 0)}, {22, at(0, 60)}, {41, at(0, 60)}, {42, at(0, 120)}, {101, at(0, 240)}, {102, at(1, 0)}, {123, at(1, 0)}, {124, at(1, 60)}, {203, at(1, 240)}, {204, at(1, 300)}} {
		if p, e := a.noReturn(0, []int{0, 1}, x.fuel); e != api.OK || p != x.want {
			t.Error(i, p, e)
		}
	}
}

func TestP6_6Equal(t *testing.T) {
	a := still(make([]bool, 4), track(0, 1, 3, 0, 0), track(2, 1, 4, 0, 0), track(2, 3, 5, 0, 0), track(0, 1, 6, 0, 0))
	for i, x := range []struct {
		from int
		l    []int
		want api.Point
	}{
		{0, []int{0}, at(0, 150)},
		{0, []int{0, 1, 2}, at(1, 300)},
		{0, []int{0, 1}, at(1, 50)},
		{3, []int{2, 1}, at(0, 450)},
		{0, []int{0, 0}, at(1, 0)},
		{0, []int{0, 3}, at(1, 150)},
		{0, []int{3, 0}, at(0, 450)},
		{0, []int{0, 0, 3}, at(2, 0)},
		{0, slices.Repeat([]int{0}, 20), at(10, 0)},
		{0, slices.Repeat([]int{0}, 19), at(9, 150)},
	} {
		if p, e := a.equal(x.from, x.l); e != api.OK || p != x.want {
			t.Error(i, p, e)
		}
	}
	// It does not depend on what is burnt, nor on the reserve: 300 metres against the wind, or with it.
	a = still(make([]bool, 2), track(0, 1, 300, 0, 0))
	a.f, a.p.Speed, a.p.Reserve, a.p.Burn = [][]api.Gale{winds(only(50), only(0))}, 100, api.MaxDry, only(0)
	if p, e := a.equal(0, []int{0}); e != api.OK || p != at(0, 7500) {
		t.Error(p, e)
	}
	if p, e := a.equal(1, []int{0}); e != api.OK || p != at(0, 22500) {
		t.Error(p, e)
	}
	// A wind that may blow either way: both ways are as slow.
	a.f = [][]api.Gale{winds(only(50), only(0)), winds(only(-50), only(0))}
	if p, e := a.equal(0, []int{0}); e != api.OK || p != at(0, 15000) {
		t.Error(p, e)
	}
}

// The longest route, at the slowest pace, which burns most.
func TestP6_6Longest(t *testing.T) {
	a := still(make([]bool, 2), track(0, 1, 7000, 7000, 0))
	a.p.Speed, a.p.Burn = 1, only(api.MaxBurn)
	l := slices.Repeat([]int{0}, 20)
	// What a track needs there and back.
	const each = 2 * 164991666667
	for i, x := range []struct {
		fuel int
		want api.Point
	}{{0, at(0, 0)}, {each - 1, at(0, 989949)}, {each, at(1, 0)}, {19 * each, at(19, 0)}, {20*each - 1, at(19, 989949)}, {20 * each, at(19, 989950)}, {math.MaxInt, at(19, 989950)}} {
		if p, e := a.noReturn(0, l, x.fuel); e != api.OK || p != x.want {
			t.Error(i, p, e)
		}
	}
	if p, e := a.equal(0, l); e != api.OK || p != at(10, 0) {
		t.Error(p, e)
	}
}

// part is some metres of a track, flown in a direction.
type part struct {
	track, metres int
	back          bool
}

// ways returns the parts of the way to a point of a route, of that back from it, and of that on from it.
func (a asked) ways(from int, l []int, p api.Point) (there, back, on []part) {
	for hop, track := range l {
		to, turned := otherEnd(a.c, from, track)
		so := 0
		switch whole := lengthOf(a.c.Tracks[track]); {
		case hop < p.Hop:
			so = whole
		case hop == p.Hop:
			so = p.Metres
		}
		there = append(there, part{track, so, turned})
		back = append(back, part{track, so, !turned})
		on = append(on, part{track, lengthOf(a.c.Tracks[track]) - so, turned})
		from = to
	}
	return there, back, on
}

// most returns the sums of the Hi of the times and of the fuel of some parts.
func (a asked) most(l []part) (time, fuel int) {
	for _, x := range l {
		t, f, _ := a.worked(x.track, x.back, x.metres)
		time, fuel = time+t.Hi, fuel+f.Hi
	}
	return time, fuel
}

// canReturn reports whether one can come back from a point with the reserve.
func (a asked) canReturn(from int, l []int, p api.Point, fuel int) bool {
	there, back, _ := a.ways(from, l, p)
	_, so := a.most(there)
	_, more := a.most(back)
	return so+more+a.p.Reserve <= fuel
}

// isNearer reports whether the way back from a point takes no more time than that on.
func (a asked) isNearer(from int, l []int, p api.Point) bool {
	_, back, on := a.ways(from, l, p)
	so, _ := a.most(back)
	more, _ := a.most(on)
	return so <= more
}

// canFly reports whether all tracks of a route are open, both ways.
func (a asked) canFly(l []int) bool {
	for _, track := range l {
		_, there := a.costs(track, false)
		_, back := a.costs(track, true)
		if !there || !back {
			return false
		}
	}
	return true
}

// lastPoint returns the last point at which something is so, of all points of a route, and whether there is one.
func (a asked) lastPoint(l []int, isSo func(p api.Point) bool) (last api.Point, found bool) {
	for hop, track := range l {
		for m := range lengthOf(a.c.Tracks[track]) + 1 {
			if p := at(hop, m); isSo(p) {
				last, found = p, true
			}
		}
	}
	return last, found
}

// shorter returns a chart with tracks that are a hundred times shorter.
func shorter(c api.Chart) api.Chart {
	c.Tracks = slices.Clone(c.Tracks)
	for i := range c.Tracks {
		c.Tracks[i].X /= 100
		c.Tracks[i].Y /= 100
	}
	return c
}

// P6.6 and P6.10: of all points it is the last one.
func TestP6_10AllPoints(t *testing.T) {
	r := rand.New(rand.NewSource(67))
	tried := 0
	for tried < 60 {
		a := someAsked(r)
		a.c = shorter(a.c)
		a.p.Reserve, a.p.Burn.Hi = r.Intn(9), a.p.Burn.Hi*10
		from := r.Intn(len(a.c.Ports))
		l := someRoute(r, a.c, from, 4)
		if len(l) == 0 || !a.canFly(l) {
			continue
		}
		tried++
		fuel := r.Intn(400)
		want, found := a.lastPoint(l, func(p api.Point) bool { return a.canReturn(from, l, p, fuel) })
		if p, e := a.noReturn(from, l, fuel); p != want || found && e != api.OK || !found && e != api.ErrFuel {
			t.Fatal(a, from, l, fuel, p, e, "want", want, found)
		}
		want, _ = a.lastPoint(l, func(p api.Point) bool { return a.isNearer(from, l, p) })
		if p, e := a.equal(from, l); p != want || e != api.OK {
			t.Fatal(a, from, l, p, e, "want", want)
		}
	}
}

// next returns the point of a route behind another one, and whether there is one.
func (a asked) next(l []int, p api.Point) (api.Point, bool) {
	if p.Metres < lengthOf(a.c.Tracks[l[p.Hop]]) {
		return at(p.Hop, p.Metres+1), true
	}
	return at(p.Hop+1, 0), p.Hop+1 < len(l)
}

// P6.10: from the point one can come back with the reserve, and from the next one one cannot; and so for equal time.
func TestP6_10Proved(t *testing.T) {
	r := rand.New(rand.NewSource(68))
	points, ends, closed := 0, 0, 0
	for range 2000 {
		a := someAsked(r)
		from := r.Intn(len(a.c.Ports))
		l := someRoute(r, a.c, from, 8)
		fuel := r.Intn(3000)
		if len(l) == 0 {
			continue
		}
		p, e := a.noReturn(from, l, fuel)
		if (e == api.ErrClosed) == a.canFly(l) {
			t.Fatal(a, from, l, fuel, p, e)
		}
		switch e {
		case api.OK:
			next, more := a.next(l, p)
			if !a.canReturn(from, l, p, fuel) || more && a.canReturn(from, l, next, fuel) {
				t.Fatal(a, from, l, fuel, p)
			}
			points++
			if !more {
				ends++
			}
		case api.ErrFuel:
			if a.canReturn(from, l, at(0, 0), fuel) {
				t.Fatal(a, from, l, fuel, p)
			}
		}
		q, f := a.equal(from, l)
		if (f == api.ErrClosed) != (e == api.ErrClosed) {
			t.Fatal(a, from, l, q, f)
		}
		if f != api.OK {
			closed++
			continue
		}
		// There is always a next one, as the way back from the end takes some time.
		next, more := a.next(l, q)
		if !a.isNearer(from, l, q) || !more || a.isNearer(from, l, next) {
			t.Fatal(a, from, l, q)
		}
	}
	if points < 200 || ends < 50 || points-ends < 50 || closed < 50 {
		t.Error("hardly any of one kind:", points, ends, closed)
	}
}
