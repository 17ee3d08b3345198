package flight_test

import (
	"math/rand"
	"slices"
	"testing"

	"ballonet/api"
	"ballonet/flight"
)

func (a asked) fly() ([]api.Ship, api.Event, api.Errno) { return flight.Fly(a.k, a.r, a.s, a.legs) }

func (a asked) accept(cert []api.Ship) api.Errno {
	return flight.Accept(a.k, a.r, a.s, a.legs, cert)
}

// flies returns the ships of a flight that has no event.
func (a asked) flies(t *testing.T) []api.Ship {
	t.Helper()
	l, event, e := a.fly()
	if e != api.OK {
		t.Fatal(a, event, e)
	}
	return l
}

// put returns a list with another element at a place.
func put[T any](l []T, at int, x T) []T {
	l = slices.Clone(l)
	l[at] = x
	return l
}

// longer returns a span that is longer at each end.
func longer(s api.Span, by int) api.Span { return span(s.Lo-by, s.Hi+by) }

func TestP5_5Accept(t *testing.T) {
	a := plainly()
	good := a.flies(t)
	wide := good[0]
	wide.X, wide.Y, wide.Height, wide.Fuel = longer(wide.X, 9), longer(wide.Y, 1), longer(wide.Height, 5), longer(wide.Fuel, 7)
	wide.Water, wide.Burnt = longer(wide.Water, 2), longer(wide.Burnt, 3)
	// What the second minute makes of the wide one: 6 * 110 to 6 * 120 further, 40 to 60 higher, 10 to 20 of fuel less, 5 to 20 of water more.
	wider := good[1]
	wider.X, wider.Y, wider.Height, wider.Fuel = span(1311, 1449), span(-1, 1), span(175, 225), span(953, 987)
	wider.Water, wider.Burnt = span(8, 30), span(17, 43)
	for i, x := range []struct {
		cert []api.Ship
		want api.Errno
	}{
		{good, api.OK},
		{[]api.Ship{good[0], wider}, api.OK},
		{[]api.Ship{wide, wider}, api.OK},
		// The second one has to hold what the first one becomes, not what Fly returns.
		{[]api.Ship{wide, good[1]}, api.ErrBad},
		{nil, api.ErrBad},
		{good[:1], api.ErrBad},
		{append(good[:2:2], good[1]), api.ErrBad},
		{[]api.Ship{good[1], good[0]}, api.ErrBad},
		{put(good, 1, api.Ship{}), api.ErrBad},
	} {
		if e := a.accept(x.cert); e != x.want {
			t.Error(i, e)
		}
	}
	for _, part := range []func(s *api.Ship) *api.Span{placeX, height, fuel, water, burnt} {
		for i, s := range good {
			whole := *part(&s)
			for _, less := range []api.Span{span(whole.Lo+1, whole.Hi), span(whole.Lo, whole.Hi-1)} {
				*part(&s) = less
				if e := a.accept(put(good, i, s)); e != api.ErrBad {
					t.Error(i, s, e)
				}
			}
			for _, less := range []api.Span{span(wider.X.Lo+1, wider.X.Hi), span(wider.X.Lo, wider.X.Hi-1)} {
				s := wider
				s.X = less
				if e := a.accept([]api.Ship{wide, s}); e != api.ErrBad {
					t.Error(i, s, e)
				}
			}
		}
	}
	// All but the spans has to be the same.
	for _, change := range []func(s *api.Ship){
		func(s *api.Ship) { s.Dry++ },
		func(s *api.Ship) { s.Ballast-- },
		func(s *api.Ship) { s.Dropped++ },
		func(s *api.Ship) { s.Gas = plant(cell(70, 221, 0)) },
		func(s *api.Ship) { s.Gas = plant(cell(71, 220, 0)) },
	} {
		for i, s := range good {
			change(&s)
			if e := a.accept(put(good, i, s)); e != api.ErrBad {
				t.Error(i, s, e)
			}
		}
	}
}

// P5.5: ErrBad for ships that are not as many as minutes, or not valid, comes before the flight, and all others come minute by minute.
func TestP5_5Order(t *testing.T) {
	a := plainly()
	good := a.flies(t)
	invalid := good[1]
	invalid.Fuel = span(990, 980)
	wrong := good[0]
	wrong.Dry++
	type row struct {
		change func(a *asked)
		cert   []api.Ship
		want   api.Errno
	}
	nothing := func(a *asked) {}
	early := func(a *asked) { a.r.Roof = 159 }
	late := func(a *asked) { a.r.Roof = 219 }
	unbegun := func(a *asked) { a.legs[0].Drop = 501 }
	full := func(a *asked) { a.s.Burnt = only(api.MaxBooks - 39) }
	burnt := func(s api.Ship) api.Ship {
		s.Burnt = span(api.MaxBooks-39, api.MaxBooks-19)
		return s
	}
	for i, x := range []row{
		{nothing, put(good, 1, invalid), api.ErrBad},
		{nothing, put(good, 0, invalid), api.ErrBad},
		{early, good, api.ErrEvent},
		{early, []api.Ship{wrong, wrong}, api.ErrEvent},
		{early, put(good, 1, invalid), api.ErrBad},
		{early, good[:1], api.ErrBad},
		{early, nil, api.ErrBad},
		{late, good, api.ErrEvent},
		{late, put(good, 1, wrong), api.ErrEvent},
		{late, put(good, 0, wrong), api.ErrBad},
		{late, put(good, 1, invalid), api.ErrBad},
		{unbegun, good, api.ErrArg},
		{unbegun, []api.Ship{wrong, wrong}, api.ErrArg},
		{unbegun, put(good, 1, invalid), api.ErrBad},
		{unbegun, good[:1], api.ErrBad},
		{full, []api.Ship{burnt(good[0]), burnt(good[1])}, api.ErrFull},
		{full, []api.Ship{burnt(wrong), burnt(good[1])}, api.ErrBad},
		{full, []api.Ship{burnt(good[0])}, api.ErrBad},
		{func(a *asked) { a.legs = nil }, nil, api.OK},
		{func(a *asked) { a.legs = []api.Leg{} }, []api.Ship{}, api.OK},
		{func(a *asked) { a.legs = nil }, good[:1], api.ErrBad},
	} {
		a := plainly()
		x.change(&a)
		if e := a.accept(x.cert); e != x.want {
			t.Error(i, e, "want", x.want)
		}
	}
	// The first error of a later beginning, after the minutes before it.
	a.legs = append(a.legs, api.Leg{Minutes: 1, Drop: 401})
	three := append(good[:2:2], good[1])
	if e := a.accept(three); e != api.ErrArg {
		t.Error(e)
	}
	if e := a.accept(put(three, 1, wrong)); e != api.ErrBad {
		t.Error(e)
	}
	a.legs[1].Drop = 400
	if e := a.accept(three); e != api.ErrBad {
		t.Error(e)
	}
	if e := a.accept(a.flies(t)); e != api.OK {
		t.Error(e)
	}
}

// A wider ship of a certificate may have an event that what Fly returns has not.
func TestP5_5WideEvent(t *testing.T) {
	a := plainly()
	good := a.flies(t)
	a.r.Roof = 220
	wide := good[0]
	wide.Height.Hi++
	if e := a.accept(put(good, 0, wide)); e != api.ErrEvent {
		t.Error(e)
	}
	if e := a.accept(good); e != api.OK {
		t.Error(e)
	}
}

// parts are all spans of a ship.
func parts() []func(s *api.Ship) *api.Span {
	return []func(s *api.Ship) *api.Span{placeX, placeY, height, fuel, water, burnt}
}

// wide returns a ship that holds another one, and is valid.
func wide(r *rand.Rand, s api.Ship) api.Ship {
	for _, part := range parts() {
		if x := part(&s); r.Intn(3) == 0 {
			*x = plus(*x, about(r, 0, 20))
		}
	}
	for _, x := range []*api.Span{&s.Fuel, &s.Water, &s.Burnt} {
		x.Lo = max(x.Lo, 0)
	}
	return s
}

// certified returns a certificate whose ships are wider than they have to be, or the error of the flight that it would be of.
func certified(r *rand.Rand, a asked) ([]api.Ship, api.Errno) {
	var cert []api.Ship
	s := a.s
	for _, l := range a.legs {
		for m := range l.Minutes {
			if m == 0 {
				begun, e := flight.Begin(s, l)
				if e != api.OK {
					return nil, e
				}
				s = begun
			}
			next, _, e := flight.Step(a.k, a.r, s, l)
			if e != api.OK {
				return nil, e
			}
			s = wide(r, next)
			cert = append(cert, s)
		}
	}
	return cert, api.OK
}

func holds(t *testing.T, a, b api.Ship) bool {
	t.Helper()
	is, e := flight.Holds(a, b)
	if e != api.OK {
		t.Fatal(a, b, e)
	}
	return is
}

// P5.7 and N5: what Fly returns is a certificate, each certificate holds it, and there is none if Fly has an event.
func TestP5_7Certificates(t *testing.T) {
	r := rand.New(rand.NewSource(55))
	wideOnes, events, refused := 0, 0, 0
	for range 3000 {
		a := someAsked(r)
		l, _, e := a.fly()
		if e != api.OK {
			events++
			// No ships are a certificate, also not those of a rig that may do more.
			b := a
			b.r.Region, b.r.Reserve, b.r.Floor, b.r.Roof = box(1000, 100000), 0, lowest(a.k), highest(a.k)
			if cert, event, other := b.fly(); other == api.OK && a.accept(cert) != e {
				t.Fatal(a, cert, event)
			}
			if cert, other := certified(r, a); other == api.OK {
				t.Fatal(a, cert)
			}
			continue
		}
		if e := a.accept(l); e != api.OK {
			t.Fatal(a, l, e)
		}
		cert, e := certified(r, a)
		if e != api.OK {
			refused++
			continue
		}
		if e := a.accept(cert); e != api.OK {
			t.Fatal(a, cert, e)
		}
		for i, s := range cert {
			if !holds(t, s, l[i]) {
				t.Fatal(a, i, s, l[i])
			}
			if !same(s, l[i]) {
				wideOnes++
			}
		}
	}
	if wideOnes < 1000 || events < 300 || refused < 20 {
		t.Error("hardly tried:", wideOnes, events, refused)
	}
}

// less returns a ship that another one holds.
func less(r *rand.Rand, s api.Ship) api.Ship {
	for _, part := range parts() {
		x := *part(&s)
		*part(&s) = within(r, x.Lo, x.Hi)
	}
	return s
}

// P5.7: a ship that another one holds, and a rig that is wider, have no event where the other one has none; and what becomes of the one is held by what becomes of the other one.
func TestP5_7Held(t *testing.T) {
	r := rand.New(rand.NewSource(56))
	tried := 0
	for range 3000 {
		a := someAsked(r)
		outer, _, e := a.fly()
		if e != api.OK {
			continue
		}
		b := a
		b.s = less(r, a.s)
		b.r.Region = box(1000, 100000)
		b.r.Reserve, b.r.Floor, b.r.Roof = r.Intn(a.r.Reserve+1), among(r, lowest(a.k), a.r.Floor), among(r, a.r.Roof, highest(a.k))
		inner, event, e := b.fly()
		if e != api.OK || len(inner) != len(outer) {
			t.Fatal(a, b, event, e)
		}
		for i, s := range inner {
			tried++
			if !holds(t, outer[i], s) {
				t.Fatal(a, b, i, s, outer[i])
			}
		}
	}
	if tried < 3000 {
		t.Error("hardly tried:", tried)
	}
}
