package route_test

import (
	"math/big"
	"math/rand"
	"testing"

	"ballonet/air"
	"ballonet/api"
	"ballonet/bound"
	"ballonet/route"
)

// What is true is told in numbers of so many bits that what is rounded is much less than tiny.

const bits = 300

var tiny = new(big.Float).SetMantExp(real(1), -200)

func real(n int) *big.Float { return new(big.Float).SetPrec(bits).SetInt64(int64(n)) }

func newReal() *big.Float { return new(big.Float).SetPrec(bits) }

func add(a, b *big.Float) *big.Float { return newReal().Add(a, b) }

func sub(a, b *big.Float) *big.Float { return newReal().Sub(a, b) }

func mul(a, b *big.Float) *big.Float { return newReal().Mul(a, b) }

func over(a, b *big.Float) *big.Float { return newReal().Quo(a, b) }

func root(a *big.Float) *big.Float { return newReal().Sqrt(a) }

// isAtMost reports whether a is not above b.
func isAtMost(a, b *big.Float) bool { return a.Cmp(add(b, tiny)) <= 0 }

func isIn(s api.Span, x *big.Float) bool { return isAtMost(real(s.Lo), x) && isAtMost(x, real(s.Hi)) }

// oneOf returns a number of a span, often one of its ends.
func oneOf(r *rand.Rand, s api.Span) *big.Float {
	return add(real(s.Lo), over(mul(real(r.Intn(8)), real(s.Hi-s.Lo)), real(7)))
}

// flies returns the time and the fuel that some metres of a track take, and need, with a wind that a member allows and a burn that the pace does.
func (a asked) flies(r *rand.Rand, member, track int, back bool, metres *big.Float) (time, fuel *big.Float) {
	t := a.c.Tracks[track]
	w, _ := air.WindAt(a.f[member], only(max(a.p.Cruise, t.Least+a.p.Margin)))
	x, y := real(t.X), real(t.Y)
	if back {
		x, y = real(-t.X), real(-t.Y)
	}
	east, north := oneOf(r, w.X), oneOf(r, w.Y)
	way := root(add(mul(x, x), mul(y, y)))
	along := over(add(mul(east, x), mul(north, y)), way)
	across := over(sub(mul(north, x), mul(east, y)), way)
	speed := add(along, root(sub(real(a.p.Speed*a.p.Speed), mul(across, across))))
	time = over(mul(real(10), metres), speed)
	return time, over(mul(time, oneOf(r, a.p.Burn)), real(60))
}

// fliesInParts does as flies, with another wind and another burn from somewhere on.
func (a asked) fliesInParts(r *rand.Rand, track int, back bool, metres *big.Float) (time, fuel *big.Float) {
	member := r.Intn(len(a.f))
	so := over(mul(metres, real(r.Intn(5))), real(4))
	t, f := a.flies(r, member, track, back, so)
	u, g := a.flies(r, member, track, back, sub(metres, so))
	return add(t, u), add(f, g)
}

// P6.8 and N6: what is true of the metres of a track is in what Part returns.
func TestP6_8Truth(t *testing.T) {
	r := rand.New(rand.NewSource(69))
	tried := 0
	for range 1500 {
		a := someAsked(r)
		if len(a.c.Tracks) == 0 {
			continue
		}
		track, back := r.Intn(len(a.c.Tracks)), r.Intn(2) == 0
		m := r.Intn(lengthOf(a.c.Tracks[track]) + 1)
		time, fuel, e := a.part(track, back, m)
		if e != api.OK {
			continue
		}
		for range 10 {
			tried++
			if so, burnt := a.fliesInParts(r, track, back, real(m)); !isIn(time, so) || !isIn(fuel, burnt) {
				t.Fatal(a, track, back, m, time, fuel, so, burnt)
			}
		}
	}
	if tried < 5000 {
		t.Error("hardly any is open:", tried)
	}
}

// P6.2 and P6.8: Part returns what is worked out number by number, and refuses what is closed.
func TestP6_8Worked(t *testing.T) {
	r := rand.New(rand.NewSource(70))
	open, closed := 0, 0
	for range 3000 {
		a := someAsked(r)
		for track, x := range a.c.Tracks {
			back, m := r.Intn(2) == 0, r.Intn(lengthOf(x)+1)
			time, fuel, isOpen := a.worked(track, back, m)
			got, need, e := a.part(track, back, m)
			if isOpen != (e == api.OK) || !isOpen && e != api.ErrClosed || got != time || need != fuel {
				t.Fatal(a, track, back, m, got, need, e, "want", time, fuel, isOpen)
			}
			if isOpen {
				open++
			} else {
				closed++
			}
			if n, e := route.Length(a.c, track); e != api.OK || n != lengthOf(x) {
				t.Fatal(a.c, track, n, e)
			}
		}
	}
	if open < 1000 || closed < 1000 {
		t.Error("hardly any of one kind:", open, closed)
	}
}

func holds(a, b api.Span) bool {
	is, e := bound.Holds(a, b)
	return is && e == api.OK
}

// P6.8: more metres need no less; more members, and more that may be burnt, make no span narrower, and open no track.
func TestP6_8More(t *testing.T) {
	r := rand.New(rand.NewSource(71))
	tried := 0
	for range 1500 {
		a := someAsked(r)
		if len(a.c.Tracks) == 0 {
			continue
		}
		track, back := r.Intn(len(a.c.Tracks)), r.Intn(2) == 0
		m := r.Intn(lengthOf(a.c.Tracks[track]))
		time, fuel, e := a.part(track, back, m)
		further, needs, f := a.part(track, back, m+1)
		if e != f || further.Lo < time.Lo || further.Hi < time.Hi || needs.Lo < fuel.Lo || needs.Hi < fuel.Hi {
			t.Fatal(a, track, back, m, time, fuel, e, further, needs, f)
		}
		more := a
		more.p.Burn = span(max(a.p.Burn.Lo-r.Intn(9), 0), a.p.Burn.Hi+r.Intn(9))
		for len(more.f) < api.MaxCast && r.Intn(3) > 0 {
			at := r.Intn(len(more.f) + 1)
			more.f = append(append(append([][]api.Gale{}, more.f[:at]...), someWinds(r)), more.f[at:]...)
		}
		wider, mayNeed, f := more.part(track, back, m)
		if f == api.OK {
			tried++
		}
		if e != api.OK && f != e || f == api.OK && (!holds(wider, time) || !holds(mayNeed, fuel)) {
			t.Fatal(a, more, track, back, m, time, fuel, e, wider, mayNeed, f)
		}
	}
	if tried < 300 {
		t.Error("hardly any is open:", tried)
	}
}

// trueFuel returns the fuel that a list of tracks from a site needs, whatever blows, and the site that it leads to.
func (a asked) trueFuel(r *rand.Rand, from int, l []int) (fuel *big.Float, to int) {
	fuel = real(0)
	for _, track := range l {
		next, back := otherEnd(a.c, from, track)
		_, burnt := a.fliesInParts(r, track, back, real(lengthOf(a.c.Tracks[track])))
		fuel, from = add(fuel, burnt), next
	}
	return fuel, from
}

// P6.9 and N6: from each point of an accepted route the alternate of the next site can be reached with the reserve, whatever the forecast allows.
func TestP6_9Truth(t *testing.T) {
	r := rand.New(rand.NewSource(72))
	tried := 0
	for range 3000 {
		a := someAsked(r)
		from := r.Intn(len(a.c.Ports))
		l := someRoute(r, a.c, from, 5)
		fuel, e := a.least(from, l)
		if e != api.OK {
			continue
		}
		all, e := a.alternates(from, l, fuel)
		if e != api.OK {
			t.Fatal(a, from, l, fuel, e)
		}
		tried++
		for i := range len(l) + 1 {
			burnt, site := a.trueFuel(r, from, l[:i])
			on, port := a.trueFuel(r, site, all[i])
			if !a.c.Ports[port] || !isAtMost(add(add(burnt, on), real(a.p.Reserve)), real(fuel)) {
				t.Fatal(a, from, l, fuel, i, all[i], burnt, on)
			}
		}
	}
	if tried < 500 {
		t.Error("hardly any is accepted:", tried)
	}
}

// P6.10 and N6: from the point of no return one comes back with the reserve, whatever the forecast allows.
func TestP6_10Truth(t *testing.T) {
	r := rand.New(rand.NewSource(73))
	tried := 0
	for range 2000 {
		a := someAsked(r)
		from := r.Intn(len(a.c.Ports))
		l := someRoute(r, a.c, from, 5)
		fuel := r.Intn(3000)
		p, e := a.noReturn(from, l, fuel)
		if e != api.OK {
			continue
		}
		tried++
		there, back, _ := a.ways(from, l, p)
		burnt := real(a.p.Reserve)
		for _, x := range append(there, back...) {
			_, f := a.fliesInParts(r, x.track, x.back, real(x.metres))
			burnt = add(burnt, f)
		}
		if !isAtMost(burnt, real(fuel)) {
			t.Fatal(a, from, l, fuel, p, burnt)
		}
	}
	if tried < 200 {
		t.Error("hardly any has one:", tried)
	}
}
