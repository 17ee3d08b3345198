package flight

import (
	"cmp"
	"iter"

	"ballonet/air"
	"ballonet/api"
	"ballonet/bound"
	"ballonet/gas"
)

// Begin returns the ship after a leg has begun (P5.3).
func Begin(s api.Ship, l api.Leg) (api.Ship, api.Errno) {
	if e := cmp.Or(CheckShip(s), CheckLegs([]api.Leg{l})); e != api.OK {
		return api.Ship{}, e
	}
	return begin(s, l)
}

func begin(s api.Ship, l api.Leg) (api.Ship, api.Errno) {
	after, _, e := gas.Play(s.Gas, l.Acts)
	if e != api.OK {
		return api.Ship{}, e
	}
	if l.Drop > s.Ballast {
		return api.Ship{}, api.ErrArg
	}
	if s.Dropped+l.Drop > api.MaxBooks {
		return api.Ship{}, api.ErrFull
	}
	s.Gas = after
	s.Ballast -= l.Drop
	s.Dropped += l.Drop
	return s, api.OK
}

// Step returns the ship after a minute of a leg (P5.3).
func Step(k api.Sky, r api.Rig, s api.Ship, l api.Leg) (api.Ship, api.Event, api.Errno) {
	f := flying{k, r}
	if e := f.check(s, []api.Leg{l}); e != api.OK {
		return api.Ship{}, api.Event{}, e
	}
	return f.step(s, l)
}

// Fly returns the ships after each minute of some legs (P5.4).
func Fly(k api.Sky, r api.Rig, s api.Ship, l []api.Leg) ([]api.Ship, api.Event, api.Errno) {
	f := flying{k, r}
	if e := f.check(s, l); e != api.OK {
		return nil, api.Event{}, e
	}
	var ships []api.Ship
	for at, leg := range minutes(l) {
		next, event, e := f.minute(s, leg, at)
		if e != api.OK {
			return nil, event, e
		}
		ships = append(ships, next)
		s = next
	}
	return ships, api.Event{}, api.OK
}

// Accept returns whether ships are a certificate of a flight (P5.5).
func Accept(k api.Sky, r api.Rig, s api.Ship, l []api.Leg, cert []api.Ship) api.Errno {
	f := flying{k, r}
	if e := f.check(s, l); e != api.OK {
		return e
	}
	if len(cert) != length(l) || !all(cert, func(c api.Ship) bool { return CheckShip(c) == api.OK }) {
		return api.ErrBad
	}
	for at, leg := range minutes(l) {
		next, _, e := f.minute(s, leg, at)
		if e != api.OK {
			return e
		}
		s = cert[at.index]
		if !holds(s, next) {
			return api.ErrBad
		}
	}
	return api.OK
}

// moment is where a flight is: the index of a leg, that of a minute of it, and that of this minute among all of the flight.
type moment struct{ leg, minute, index int }

// minutes yields the minutes of some legs, with their legs.
func minutes(legs []api.Leg) iter.Seq2[moment, api.Leg] {
	return func(yield func(at moment, l api.Leg) bool) {
		index := 0
		for i, l := range legs {
			for m := range l.Minutes {
				if !yield(moment{leg: i, minute: m, index: index}, l) {
					return
				}
				index++
			}
		}
	}
}

// flying is a flight at work.
type flying struct {
	api.Sky
	api.Rig
}

// check returns the errors of the sky, the rig, a ship and legs, and then ErrArg unless the air is known from Floor to Roof.
func (f flying) check(s api.Ship, l []api.Leg) api.Errno {
	if e := cmp.Or(CheckSky(f.Sky), CheckRig(f.Rig), CheckShip(s), CheckLegs(l)); e != api.OK {
		return e
	}
	if !inOrder(f.Sounding[0].Height, f.Floor, f.Roof, f.Sounding[len(f.Sounding)-1].Height) {
		return api.ErrArg
	}
	return api.OK
}

// minute returns the ship after a minute of a flight, with the beginning of the leg if it is the first one of it.
func (f flying) minute(s api.Ship, l api.Leg, at moment) (api.Ship, api.Event, api.Errno) {
	if at.minute == 0 {
		begun, e := begin(s, l)
		if e != api.OK {
			return api.Ship{}, api.Event{}, e
		}
		s = begun
	}
	next, event, e := f.step(s, l)
	if e == api.ErrEvent {
		event.Leg, event.Minute = at.leg, at.minute
	}
	return next, event, e
}

// step returns the ship after a minute of a leg that has begun.
func (f flying) step(s api.Ship, l api.Leg) (api.Ship, api.Event, api.Errno) {
	next := f.after(s, l)
	if event, found := f.event(s, next, l); found {
		return api.Ship{}, event, api.ErrEvent
	}
	if next.Burnt.Hi > api.MaxBooks {
		return api.Ship{}, api.Event{}, api.ErrFull
	}
	return next, api.Event{}, api.OK
}

// after returns what a minute makes of a ship. Only if it has no event it is a valid ship.
func (f flying) after(s api.Ship, l api.Leg) api.Ship {
	next := s
	next.Gas, _ = gas.Do(s.Gas, api.GasAct{Kind: api.GasTick, N: 1})
	next.Height = sum(s.Height, l.Up)
	next.Fuel, _ = bound.Sub(s.Fuel, l.Burn)
	next.Burnt = sum(s.Burnt, l.Burn)
	gain, _ := bound.Over(l.Burn, f.Regain, only(100))
	water := sum(s.Water, gain)
	next.Water = api.Span{Lo: min(water.Lo, f.Tank), Hi: min(water.Hi, f.Tank)}
	wind, _ := air.WindAt(f.Winds, join(s.Height, next.Height))
	next.X = sum(s.X, way(l.Air.X, wind.X))
	next.Y = sum(s.Y, way(l.Air.Y, wind.Y))
	return next
}

// way returns how far a ship goes in a minute, in metres, by its way through the air and the wind, which are in tenths of a metre per second.
func way(through, wind api.Span) api.Span {
	s, _ := bound.Mul(sum(through, wind), only(6))
	return s
}

// event returns the first event of a minute, and whether there is one.
func (f flying) event(s, next api.Ship, l api.Leg) (event api.Event, found bool) {
	// All that the ship may be from the beginning of the minute to its end.
	during := next
	during.Height = join(s.Height, next.Height)
	during.Fuel = join(s.Fuel, next.Fuel)
	during.Water = join(s.Water, next.Water)
	// Where nothing is known of the air the ship is below Floor or above Roof, and these events come before those that the air makes.
	around, _ := air.At(f.Sounding, during.Height)
	cell := 0
	looks := [...]func() bool{
		api.EventLow:  func() bool { return during.Height.Lo < f.Floor },
		api.EventHigh: func() bool { return during.Height.Hi > f.Roof },
		api.EventPress: func() (bursts bool) {
			cell, bursts = firstUnfit(during.Gas.Cells, around)
			return bursts
		},
		api.EventFuel: func() bool { return next.Fuel.Lo < f.Reserve },
		api.EventTrim: func() bool { return !f.flies(l.Air, heaviness(during, around)) },
		api.EventFar:  func() bool { return !isPlace(next.X) || !isPlace(next.Y) },
	}
	for kind := api.EventLow; kind < len(looks); kind++ {
		if looks[kind]() {
			return api.Event{Kind: kind, Cell: cell}, true
		}
	}
	return api.Event{}, false
}

// flies reports whether the region holds all that a ship may be, on its way through the air with a heaviness.
func (f flying) flies(through api.Wind, heavy api.Span) bool {
	speed, _ := air.Speed(through)
	corners := []api.Corner{
		{X: speed.Lo, Y: heavy.Lo}, {X: speed.Hi, Y: heavy.Lo},
		{X: speed.Lo, Y: heavy.Hi}, {X: speed.Hi, Y: heavy.Hi},
	}
	return all(corners, func(c api.Corner) bool {
		inside, _ := bound.Inside(f.Region, c)
		return inside
	})
}
