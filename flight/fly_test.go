package flight_test

import (
	"math/rand"
	"slices"
	"testing"

	"ballonet/air"
	"ballonet/api"
	"ballonet/bound"
	"ballonet/flight"
	"ballonet/gas"
)

func begins(t *testing.T, s api.Ship, l api.Leg) api.Ship {
	t.Helper()
	b, e := flight.Begin(s, l)
	if e != api.OK {
		t.Fatal(s, l, e)
	}
	return b
}

func steps(t *testing.T, k api.Sky, r api.Rig, s api.Ship, l api.Leg) api.Ship {
	t.Helper()
	next, event, e := flight.Step(k, r, s, l)
	if event != (api.Event{}) || e != api.OK {
		t.Fatal(s, l, event, e)
	}
	return next
}

func isShip(t *testing.T, what any, got, want api.Ship) {
	t.Helper()
	if !same(got, want) {
		t.Error(what, got, "want", want)
	}
}

// The chapter's examples.
func TestP5_3Examples(t *testing.T) {
	want := plainShip()
	want.Ballast, want.Dropped = 400, 100
	s := begins(t, plainShip(), plainLeg())
	isShip(t, "begun", s, want)
	isHeavy(t, calm(), s, only(-100))
	want.X, want.Height, want.Fuel, want.Water, want.Burnt = span(660, 720), span(140, 160), span(980, 990), span(5, 20), span(10, 20)
	first := steps(t, calm(), plainRig(), s, plainLeg())
	isShip(t, "after a minute", first, want)
	want.X, want.Height, want.Fuel, want.Water, want.Burnt = span(1320, 1440), span(180, 220), span(960, 980), span(10, 30), span(20, 40)
	second := steps(t, calm(), plainRig(), first, plainLeg())
	isShip(t, "after two minutes", second, want)
	a := plainly()
	l, event, e := flight.Fly(a.k, a.r, a.s, a.legs)
	if len(l) != 2 || event != (api.Event{}) || e != api.OK {
		t.Fatal(l, event, e)
	}
	isShip(t, "flown", l[0], first)
	isShip(t, "flown", l[1], second)
}

func TestP5_4Examples(t *testing.T) {
	for i, x := range []struct {
		change func(a *asked)
		want   api.Event
	}{
		{func(a *asked) { a.r.Roof = 219 }, api.Event{Kind: api.EventHigh, Minute: 1}},
		{func(a *asked) { a.r.Roof = 220 }, api.Event{}},
		{func(a *asked) { a.r.Reserve = 961 }, api.Event{Kind: api.EventFuel, Minute: 1}},
		{func(a *asked) { a.r.Reserve = 960 }, api.Event{}},
		{func(a *asked) { a.s = filled(250) }, api.Event{Kind: api.EventPress}},
	} {
		a := plainly()
		x.change(&a)
		if _, event, e := flight.Fly(a.k, a.r, a.s, a.legs); event != x.want || (e == api.ErrEvent) != (x.want.Kind > 0) {
			t.Error(i, event, e)
		}
	}
}

func TestP5_3Begin(t *testing.T) {
	s := used()
	want := used()
	// 10 of 210 units in the one, 30 of 190 out of the other; it does not leak, nor is any time gone.
	want.Gas.Cells[0].Helium, want.Gas.Cells[0].Air = 191, 9
	want.Gas.Valved = api.Pair{Helium: 10, Air: 3}
	l := api.Leg{Minutes: 600, Up: only(300), Burn: only(1000000), Acts: []api.GasAct{act(api.GasValve, 0, 9, 10)}}
	isShip(t, "valved", begins(t, s, l), want)
	want.Gas.Cells[0].Helium, want.Gas.Cells[0].Air = 214, 16
	want.Gas.Cells[1].Helium, want.Gas.Cells[1].Air = 127, 33
	l.Acts = append(l.Acts, act(api.GasMove, 1, 0, 30))
	l.Drop, want.Ballast, want.Dropped = 20, 100, 97
	isShip(t, "valved, moved and dropped", begins(t, s, l), want)
	l.Acts, l.Drop = nil, 120
	want.Gas, want.Ballast, want.Dropped = used().Gas, 0, 197
	isShip(t, "all dropped", begins(t, s, l), want)
	isShip(t, "nothing done", begins(t, s, api.Leg{Minutes: 1}), s)
	for _, s := range goodShips() {
		isShip(t, "nothing done", begins(t, s, api.Leg{Minutes: 1}), s)
	}
}

// unbegun is beginnings that are refused.
func unbegun() []struct {
	s    api.Ship
	l    api.Leg
	want api.Errno
} {
	acting := func(drop int, acts ...api.GasAct) api.Leg { return api.Leg{Minutes: 1, Drop: drop, Acts: acts} }
	heavy := used()
	heavy.Ballast, heavy.Dropped = 1000, api.MaxBooks-5
	stuffed := used()
	stuffed.Gas = plant(cell(9, 10, 0), cell(9, api.MaxAmount-4, 5))
	return []struct {
		s    api.Ship
		l    api.Leg
		want api.Errno
	}{
		{used(), acting(0, act(api.GasValve, 2, 0, 1)), api.ErrArg},
		{used(), acting(0, act(api.GasValve, -1, 0, 1)), api.ErrArg},
		{used(), acting(0, act(api.GasValve, 0, 0, 0)), api.ErrArg},
		{used(), acting(0, act(api.GasValve, 0, 0, 211)), api.ErrNone},
		{used(), acting(0, act(api.GasMove, 0, 0, 1)), api.ErrArg},
		{used(), acting(0, act(api.GasMove, 0, 2, 1)), api.ErrArg},
		{used(), acting(0, act(api.GasMove, 1, 0, 191)), api.ErrNone},
		{stuffed, acting(0, act(api.GasMove, 0, 1, 5)), api.ErrFull},
		{stuffed, acting(0, act(api.GasMove, 0, 1, 4), act(api.GasMove, 0, 1, 4)), api.ErrFull},
		{api.Ship{}, acting(0, act(api.GasValve, 0, 0, 1)), api.ErrArg},
		// One act after the other, and the first error counts.
		{used(), acting(0, act(api.GasValve, 0, 0, 200), act(api.GasValve, 0, 0, 11)), api.ErrNone},
		{used(), acting(0, act(api.GasValve, 0, 0, 1), act(api.GasValve, 1, 0, 500), act(api.GasValve, 7, 0, 1)), api.ErrNone},
		{used(), acting(0, act(api.GasValve, 7, 0, 1), act(api.GasValve, 1, 0, 500)), api.ErrArg},
		// Acts come before the drop, and what is dropped has to be there.
		{used(), acting(121), api.ErrArg},
		{used(), acting(api.MaxDry), api.ErrArg},
		{used(), acting(121, act(api.GasValve, 0, 0, 500)), api.ErrNone},
		{heavy, acting(6), api.ErrFull},
		{heavy, acting(1000), api.ErrFull},
		{heavy, acting(1001), api.ErrArg},
		{heavy, acting(6, act(api.GasValve, 0, 0, 500)), api.ErrNone},
	}
}

func TestP5_3BeginErrors(t *testing.T) {
	for i, x := range unbegun() {
		if s, e := flight.Begin(x.s, x.l); e != x.want || !isNothing(s) {
			t.Error(i, s, e)
		}
		// Step is for legs that have begun: it does nothing of this.
		k, r := calm(), plainRig()
		r.Reserve, r.Region = 0, []api.Corner{{}}
		x.s.Height = only(-1)
		if _, event, e := flight.Step(k, r, x.s, x.l); event.Kind != api.EventLow || e != api.ErrEvent {
			t.Error(i, event, e)
		}
	}
	s := used()
	s.Dropped = api.MaxBooks - 120
	if b, e := flight.Begin(s, api.Leg{Minutes: 1, Drop: 120}); e != api.OK || b.Dropped != api.MaxBooks || b.Ballast != 0 {
		t.Error(b, e)
	}
}

// P5.3 and P5.4: Floor and Roof have to be in the sounding's range, after all errors of the arguments, and before all others.
func TestP5_3Range(t *testing.T) {
	for i, x := range []struct{ floor, roof, low, high int }{
		{-1, 900, 0, 1000}, {0, 1001, 0, 1000}, {-500, 9000, 0, 1000}, {0, 900, 1, 900}, {0, 900, 0, 899}, {-500, -400, 0, 1000}, {2000, 3000, 0, 1000},
	} {
		a := plainly()
		a.r.Floor, a.r.Roof = x.floor, x.roof
		a.k.Sounding[0].Height, a.k.Sounding[1].Height = x.low, x.high
		a.k.Sounding[1].Press = span(8000, 10000)
		a.legs[0].Drop = 1000
		a.s.Height = only(9000)
		s, event, e := flight.Step(a.k, a.r, a.s, a.legs[0])
		if e != api.ErrArg || event != (api.Event{}) || !isNothing(s) {
			t.Error(i, s, event, e)
		}
		for _, l := range [][]api.Leg{a.legs, nil} {
			ships, event, e := flight.Fly(a.k, a.r, a.s, l)
			if e != api.ErrArg || event != (api.Event{}) || len(ships) > 0 {
				t.Error(i, ships, event, e)
			}
			if e := flight.Accept(a.k, a.r, a.s, l, make([]api.Ship, 9)); e != api.ErrArg {
				t.Error(i, e)
			}
		}
	}
	a := plainly()
	a.r.Floor, a.r.Roof = 0, 1000
	steps(t, a.k, a.r, a.s, a.legs[0])
}

// stepEvent checks which event a minute has; a kind of 0 is none.
func stepEvent(t *testing.T, what any, a asked, kind, cell int) {
	t.Helper()
	s, event, e := flight.Step(a.k, a.r, a.s, a.legs[0])
	want := api.ErrEvent
	if kind == 0 {
		want = api.OK
	}
	if e != want || event != (api.Event{Kind: kind, Cell: cell}) || (kind > 0) != isNothing(s) {
		t.Error(what, s, event, e, "want", kind, cell)
	}
}

// Each event just happens, or just does not.
func TestP5_3Events(t *testing.T) {
	bursting := []api.Cell{cell(70, 220, 0), cell(70, 222, 0), cell(70, 223, 0)}
	for i, x := range []struct {
		change     func(a *asked)
		kind, cell int
	}{
		{func(a *asked) { a.r.Floor = 100 }, 0, 0},
		{func(a *asked) { a.r.Floor = 101 }, api.EventLow, 0},
		{func(a *asked) { a.s.Height = span(99, 120); a.r.Floor = 100 }, api.EventLow, 0},
		{func(a *asked) { a.legs[0].Up = span(-101, 0) }, api.EventLow, 0},
		{func(a *asked) { a.legs[0].Up = span(-100, 0) }, 0, 0},
		{func(a *asked) { a.legs[0].Up = span(300, 300); a.r.Floor = 101 }, api.EventLow, 0},
		{func(a *asked) { a.r.Roof = 160 }, 0, 0},
		{func(a *asked) { a.r.Roof = 159 }, api.EventHigh, 0},
		{func(a *asked) { a.legs[0].Up = span(-50, -20); a.r.Roof = 99 }, api.EventHigh, 0},
		{func(a *asked) { a.legs[0].Up = span(-50, -20); a.r.Roof = 100 }, 0, 0},
		{func(a *asked) { a.s.Height, a.r.Roof = span(-500, 9000), 1000 }, api.EventLow, 0},
		{func(a *asked) { a.s.Height, a.r.Roof = span(0, 9000), 1000 }, api.EventHigh, 0},
		// The room has 221.25 units at 1000, and 250 at 0.
		{func(a *asked) { a.s, a.legs[0].Up, a.r.Roof = at(filled(221), only(1000)), only(0), 1000 }, 0, 0},
		{func(a *asked) { a.s, a.legs[0].Up, a.r.Roof = at(filled(222), only(1000)), only(0), 1000 }, api.EventPress, 0},
		{func(a *asked) { a.s, a.legs[0].Up = at(filled(250), only(0)), only(0) }, 0, 0},
		{func(a *asked) { a.s, a.legs[0].Up = at(filled(250), only(0)), span(0, 1) }, api.EventPress, 0},
		{func(a *asked) { a.s, a.legs[0].Up = at(filled(250), only(1)), only(-1) }, api.EventPress, 0},
		{func(a *asked) {
			a.s, a.legs[0].Up, a.r.Roof = at(filled(0), only(1000)), only(0), 1000
			a.s.Gas = plant(bursting...)
		}, api.EventPress, 1},
		{func(a *asked) { a.r.Reserve = 980 }, 0, 0},
		{func(a *asked) { a.r.Reserve = 981 }, api.EventFuel, 0},
		{func(a *asked) { a.s.Fuel, a.r.Reserve = span(0, 10), 0 }, api.EventFuel, 0},
		{func(a *asked) { a.s.Fuel, a.r.Reserve, a.legs[0].Burn = only(0), 0, only(0) }, 0, 0},
		{func(a *asked) { a.s.X = only(10000000 - 720) }, 0, 0},
		{func(a *asked) { a.s.X = span(0, 10000000-719) }, api.EventFar, 0},
		{func(a *asked) { a.s.X = only(10000000) }, api.EventFar, 0},
		{func(a *asked) { a.s.X = only(-10000000) }, 0, 0},
		{func(a *asked) { a.s.Y = only(10000000) }, 0, 0},
		{func(a *asked) { a.s.Y, a.legs[0].Air.Y = only(10000000), span(-10, 1) }, api.EventFar, 0},
		{func(a *asked) { a.s.Y, a.legs[0].Air.Y = span(-10000000, 5), span(-1, 10) }, api.EventFar, 0},
		{func(a *asked) { a.s.Y, a.legs[0].Air.Y = span(-10000000+6, 5), span(-1, 10) }, 0, 0},
		{func(a *asked) { a.s.X, a.legs[0].Air.X = span(-10000000+5, 5), only(-11) }, api.EventFar, 0},
	} {
		a := plainly()
		x.change(&a)
		stepEvent(t, i, a, x.kind, x.cell)
	}
}

// The speed is 100. At the beginning the ship is in balance; 10 to 20 of fuel are burnt, and 5 to 20 of water gained. So its heaviness is from -20 to 20 in this minute.
func TestP5_3Trim(t *testing.T) {
	a := plainly()
	for _, x := range []struct {
		region []api.Corner
		kind   int
	}{
		{[]api.Corner{{X: 100, Y: -20}, {X: 101, Y: -20}, {X: 101, Y: 20}, {X: 100, Y: 20}}, 0},
		{[]api.Corner{{X: 100, Y: -20}, {X: 100, Y: 20}}, 0},
		{[]api.Corner{{X: 99, Y: -20}, {X: 100, Y: -20}, {X: 100, Y: 20}, {X: 99, Y: 20}}, 0},
		{[]api.Corner{{X: 100, Y: -20}, {X: 100, Y: 19}}, api.EventTrim},
		{[]api.Corner{{X: 100, Y: -19}, {X: 100, Y: 20}}, api.EventTrim},
		{box(99, 200), api.EventTrim},
		{[]api.Corner{{X: 101, Y: -20}, {X: 101, Y: 20}}, api.EventTrim},
		{[]api.Corner{{}}, api.EventTrim},
	} {
		a.r.Region = x.region
		stepEvent(t, x.region, a, x.kind, 0)
	}
	// Ends of the speed: the square root of 100 * 100 and 5 * 5 is 100.1.
	a.legs[0].Air = wind(span(-100, -90), span(-5, 5))
	for _, x := range []struct{ least, most, kind int }{{90, 101, 0}, {91, 101, api.EventTrim}, {90, 100, api.EventTrim}} {
		a.r.Region = []api.Corner{{X: x.least, Y: -20}, {X: x.most, Y: -20}, {X: x.most, Y: 20}, {X: x.least, Y: 20}}
		stepEvent(t, x, a, x.kind, 0)
	}
	// Each of the four corners alone may be out of a region.
	for i, cut := range [][]api.Corner{
		{{X: 90, Y: -19}, {X: 91, Y: -20}, {X: 101, Y: -20}, {X: 101, Y: 20}, {X: 90, Y: 20}},
		{{X: 90, Y: -20}, {X: 100, Y: -20}, {X: 101, Y: -19}, {X: 101, Y: 20}, {X: 90, Y: 20}},
		{{X: 90, Y: -20}, {X: 101, Y: -20}, {X: 101, Y: 19}, {X: 100, Y: 20}, {X: 90, Y: 20}},
		{{X: 90, Y: -20}, {X: 101, Y: -20}, {X: 101, Y: 20}, {X: 91, Y: 20}, {X: 90, Y: 19}},
	} {
		a.r.Region = cut
		stepEvent(t, i, a, api.EventTrim, 0)
	}
}

// All events happen in one minute; when one is mended the next one is told.
func TestP5_3EventOrder(t *testing.T) {
	a := plainly()
	a.s = at(filled(300), span(50, 950))
	a.s.X, a.s.Fuel, a.s.Burnt = only(10000000), only(50), only(api.MaxBooks)
	a.r.Floor, a.r.Region = 60, []api.Corner{{}}
	for _, x := range []struct {
		kind int
		mend func()
	}{
		{api.EventLow, func() { a.r.Floor = 50 }},
		{api.EventHigh, func() { a.s.Height = only(50) }},
		{api.EventPress, func() { a.s.Gas = plant(cell(70, 220, 0)) }},
		{api.EventFuel, func() { a.s.Fuel = only(1000) }},
		{api.EventTrim, func() { a.r.Region = box(200, 2000) }},
		{api.EventFar, func() { a.s.X = only(0) }},
	} {
		stepEvent(t, x.kind, a, x.kind, 0)
		x.mend()
	}
	// The books are full only after all events.
	if s, event, e := flight.Step(a.k, a.r, a.s, a.legs[0]); e != api.ErrFull || event != (api.Event{}) || !isNothing(s) {
		t.Error(s, event, e)
	}
	if l, event, e := flight.Fly(a.k, a.r, a.s, a.legs); e != api.ErrFull || event != (api.Event{}) || len(l) > 0 {
		t.Error(l, event, e)
	}
	a.s.Burnt = only(api.MaxBooks - 20)
	stepEvent(t, "just full", a, 0, 0)
	a.s.Burnt = span(0, api.MaxBooks-19)
	if _, _, e := flight.Step(a.k, a.r, a.s, a.legs[0]); e != api.ErrFull {
		t.Error(e)
	}
}

// Water: what does not go into the tank is lost, also what was there before.
func TestP5_3Water(t *testing.T) {
	for i, x := range []struct {
		water, burn, regain, want api.Span
		tank                      int
	}{
		{only(0), span(10, 20), span(50, 100), span(5, 20), 30},
		{span(20, 29), span(10, 20), span(50, 100), span(25, 30), 30},
		{span(28, 29), span(10, 20), span(50, 100), only(30), 30},
		{span(500, 600), span(10, 20), span(50, 100), only(30), 30},
		{span(500, 600), only(0), span(50, 100), only(30), 30},
		{span(3, 4), span(10, 20), span(50, 100), only(0), 0},
		// Rounded outwards: from 3.85 to 12.1.
		{only(1), span(7, 11), span(55, 110), span(4, 14), 30},
		{only(0), span(1, 1), span(0, 1), span(0, 1), 30},
		{only(0), span(1, 1), span(120, 120), span(1, 2), 30},
		{only(0), span(0, 20), only(0), only(0), 30},
	} {
		a := plainly()
		a.s.Water, a.legs[0].Burn, a.r.Regain, a.r.Tank = x.water, x.burn, x.regain, x.tank
		if got := steps(t, a.k, a.r, a.s, a.legs[0]); got.Water != x.want {
			t.Error(i, got.Water)
		}
	}
}

// The wind is that of all heights of a minute, with gusts.
func TestP5_3Wind(t *testing.T) {
	a := plainly()
	a.k.Winds = []api.Gale{
		{Height: 100, Wind: wind(span(0, 10), only(-7)), Gust: 1},
		{Height: 200, Wind: wind(span(-100, -90), span(8, 9)), Gust: 3},
		{Height: 300, Wind: wind(only(500), only(500)), Gust: 5},
	}
	a.legs[0].Air = wind(span(100, 101), span(-2, 2))
	for i, x := range []struct{ height, up, x, y api.Span }{
		// At 100 there are the gusts of the gale at 200, too.
		{only(100), only(0), span(6*(100-3), 6*(101+13)), span(6*(-2-10), 6*(2-4))},
		{only(99), only(0), span(6*(100-1), 6*(101+11)), span(6*(-2-8), 6*(2-6))},
		{only(0), only(150), span(6*(100-50-3), 6*(101+10+3)), span(6*(-2-7-3), 6*(2+1+3))},
		{only(150), only(-150), span(6*(100-50-3), 6*(101+10+3)), span(6*(-2-7-3), 6*(2+1+3))},
		{span(100, 150), span(-10, 20), span(6*(100-70-3), 6*(101+10+3)), span(6*(-2-7-3), 6*(2+5+3))},
		{only(400), only(0), span(6*595, 6*606), span(6*493, 6*507)},
	} {
		a.s.Height, a.legs[0].Up = x.height, x.up
		a.s.X, a.s.Y = span(1000, 2000), span(-3000, -1)
		got := steps(t, a.k, a.r, a.s, a.legs[0])
		wantX, _ := bound.Add(a.s.X, x.x)
		wantY, _ := bound.Add(a.s.Y, x.y)
		if got.X != wantX || got.Y != wantY {
			t.Error(i, got.X, got.Y, "want", wantX, wantY)
		}
	}
}

// Leaks: once a minute, and with them what lifts.
func TestP5_3Leak(t *testing.T) {
	a := plainly()
	a.legs[0].Up, a.legs[0].Burn = only(0), only(0)
	leaky := api.Cell{Room: 90, Helium: 198, Air: 22, Leak: 50000, Owed: 10}
	a.s.Gas, a.s.Dry = plant(leaky), 3450
	want := a.s
	want.X = span(660, 720)
	want.Gas = api.Plant{
		Cells: []api.Cell{{Room: 90, Helium: 189, Air: 20, Leak: 50000, Owed: 10}},
		In:    api.Pair{Helium: 198, Air: 22}, Leaked: api.Pair{Helium: 9, Air: 2},
	}
	isHeavy(t, a.k, a.s, only(0))
	// The heaviness of the minute is that of what has not leaked.
	a.r.Region = []api.Corner{{X: 100, Y: 225}}
	isShip(t, "after a minute", steps(t, a.k, a.r, a.s, a.legs[0]), want)
	// A cell that is full enough to burst does not, if it leaks in time.
	a.s.Height = only(0)
	a.s.Gas.Cells[0].Room = 60
	isShip(t, "after a minute", steps(t, a.k, a.r, a.s, a.legs[0]), with(func() api.Ship {
		want.Height = only(0)
		want.Gas.Cells[0].Room = 60
		return want
	}, height, []api.Span{only(0)})[0])
}

// leaked returns the gas after each cell has leaked once, and what was leaked, as layer 3's chapter tells it.
func leaked(p api.Plant) api.Plant {
	p.Cells = slices.Clone(p.Cells)
	for i := range p.Cells {
		c := &p.Cells[i]
		owed := c.Owed + (c.Helium+c.Air)*c.Leak
		units := owed / 1000000
		c.Owed = owed % 1000000
		if units > 0 {
			helium := units * c.Helium / (c.Helium + c.Air)
			c.Helium -= helium
			c.Air -= units - helium
			p.Leaked.Helium += helium
			p.Leaked.Air += units - helium
		}
	}
	return p
}

// hundredth returns a hundredth of the products of two spans that are not below 0.
func hundredth(a, b api.Span) api.Span { return span(a.Lo*b.Lo/100, (a.Hi*b.Hi+99)/100) }

func plus(a, b api.Span) api.Span { return span(a.Lo+b.Lo, a.Hi+b.Hi) }

func both(a, b api.Span) api.Span { return span(min(a.Lo, b.Lo), max(a.Hi, b.Hi)) }

// told returns a minute number by number, as the chapter tells it.
func told(a asked, l api.Leg) (api.Ship, api.Event, api.Errno) {
	s, n := a.s, a.s
	n.Gas = leaked(s.Gas)
	n.Height = plus(s.Height, l.Up)
	n.Fuel = span(s.Fuel.Lo-l.Burn.Hi, s.Fuel.Hi-l.Burn.Lo)
	n.Burnt = plus(s.Burnt, l.Burn)
	n.Water = plus(s.Water, hundredth(l.Burn, a.r.Regain))
	n.Water = span(min(n.Water.Lo, a.r.Tank), min(n.Water.Hi, a.r.Tank))
	heights := both(s.Height, n.Height)
	w, _ := air.WindAt(a.k.Winds, heights)
	n.X = span(s.X.Lo+6*(l.Air.X.Lo+w.X.Lo), s.X.Hi+6*(l.Air.X.Hi+w.X.Hi))
	n.Y = span(s.Y.Lo+6*(l.Air.Y.Lo+w.Y.Lo), s.Y.Hi+6*(l.Air.Y.Hi+w.Y.Hi))
	if heights.Lo < a.r.Floor {
		return api.Ship{}, api.Event{Kind: 1}, api.ErrEvent
	}
	if heights.Hi > a.r.Roof {
		return api.Ship{}, api.Event{Kind: 2}, api.ErrEvent
	}
	around, _ := air.At(a.k.Sounding, heights)
	heavy := plus(plus(only(s.Dry+s.Ballast), both(s.Fuel, n.Fuel)), both(s.Water, n.Water))
	for i, c := range n.Gas.Cells {
		if fits, _ := gas.Fits(c, around); fits != api.CellFits {
			return api.Ship{}, api.Event{Kind: 3, Cell: i}, api.ErrEvent
		}
		lift, _ := gas.Lift(c, around)
		heavy = span(heavy.Lo-lift.Hi, heavy.Hi-lift.Lo)
	}
	if n.Fuel.Lo < a.r.Reserve {
		return api.Ship{}, api.Event{Kind: 4}, api.ErrEvent
	}
	speed, _ := air.Speed(l.Air)
	for _, x := range []int{speed.Lo, speed.Hi} {
		for _, y := range []int{heavy.Lo, heavy.Hi} {
			if in, _ := bound.Inside(a.r.Region, api.Corner{X: x, Y: y}); !in {
				return api.Ship{}, api.Event{Kind: 5}, api.ErrEvent
			}
		}
	}
	for _, end := range []int{n.X.Lo, n.X.Hi, n.Y.Lo, n.Y.Hi} {
		if end < -10000000 || end > 10000000 {
			return api.Ship{}, api.Event{Kind: 6}, api.ErrEvent
		}
	}
	if n.Burnt.Hi > api.MaxBooks {
		return api.Ship{}, api.Event{}, api.ErrFull
	}
	return n, api.Event{}, api.OK
}

// nearLimits returns a ship that is now and then near one of the limits of all ships.
func nearLimits(r *rand.Rand, s api.Ship) api.Ship {
	switch r.Intn(12) {
	case 0:
		s.X = about(r, 10000000-2000, 2000)
	case 1:
		s.Y = about(r, -10000000+2000, 2000)
	case 2:
		s.Burnt = about(r, api.MaxBooks-40, 40)
	}
	return s
}

func TestP5_3Told(t *testing.T) {
	r := rand.New(rand.NewSource(53))
	var kinds [7]int
	full := 0
	for range 6000 {
		a := someAsked(r)
		a.s = nearLimits(r, a.s)
		l := someLeg(r, a.s)
		want, wantEvent, wantE := told(a, l)
		got, event, e := flight.Step(a.k, a.r, a.s, l)
		if !same(got, want) || event != wantEvent || e != wantE {
			t.Fatal(a, l, got, event, e, "want", want, wantEvent, wantE)
		}
		kinds[event.Kind]++
		if e == api.ErrFull {
			full++
		}
	}
	if slices.Min(kinds[:]) < 20 || full < 20 {
		t.Error("hardly tried:", kinds, full)
	}
}

// flown returns what Fly has to return, as it is made of Begin and Step.
func flown(a asked) ([]api.Ship, api.Event, api.Errno) {
	var l []api.Ship
	s := a.s
	for i, leg := range a.legs {
		begun, e := flight.Begin(s, leg)
		if e != api.OK {
			return nil, api.Event{}, e
		}
		s = begun
		for m := range leg.Minutes {
			next, event, e := flight.Step(a.k, a.r, s, leg)
			if e == api.ErrEvent {
				event.Leg, event.Minute = i, m
			}
			if e != api.OK {
				return nil, event, e
			}
			l = append(l, next)
			s = next
		}
	}
	return l, api.Event{}, api.OK
}

func TestP5_4Fly(t *testing.T) {
	r := rand.New(rand.NewSource(54))
	well, later, refused := 0, 0, 0
	for range 5000 {
		a := someAsked(r)
		a.s = nearLimits(r, a.s)
		want, wantEvent, wantE := flown(a)
		got, event, e := flight.Fly(a.k, a.r, a.s, a.legs)
		if !slices.EqualFunc(got, want, same) || event != wantEvent || e != wantE {
			t.Fatal(a, got, event, e, "want", want, wantEvent, wantE)
		}
		switch {
		case e == api.OK && len(got) > 3:
			well++
		case e == api.ErrEvent && event.Leg > 0 && event.Minute > 0:
			later++
		case e != api.OK && e != api.ErrEvent:
			refused++
		}
	}
	if well < 200 || later < 100 || refused < 20 {
		t.Error("hardly tried:", well, later, refused)
	}
}

// P5.4: errors of a beginning come in the order of the flight.
func TestP5_4Begin(t *testing.T) {
	for i, x := range unbegun() {
		a := plainly()
		a.s = x.s
		a.s.Height = only(500)
		a.r.Region, a.r.Reserve = box(1000, api.MaxCorner), 0
		hover := api.Leg{Minutes: 2}
		// What the air would do to the cells comes only after the leg has begun.
		for _, legs := range [][]api.Leg{{x.l}, {x.l, hover}} {
			if l, event, e := flight.Fly(a.k, a.r, a.s, legs); e != x.want || event != (api.Event{}) || len(l) > 0 {
				t.Error(i, l, event, e)
			}
		}
		for j := range a.s.Gas.Cells {
			c := &a.s.Gas.Cells[j]
			c.Room, c.Leak, c.Owed = api.MaxRoom, 0, 0
		}
		if l, event, e := flight.Fly(a.k, a.r, a.s, []api.Leg{hover, hover, x.l}); e != x.want || event != (api.Event{}) || len(l) > 0 {
			t.Error(i, l, event, e)
		}
		a.r.Roof = 499
		if l, event, e := flight.Fly(a.k, a.r, a.s, []api.Leg{hover, x.l}); e != api.ErrEvent || event.Kind != api.EventHigh || len(l) > 0 {
			t.Error(i, l, event, e)
		}
	}
}

// P5.4: an event has its leg and its minute, and no legs have no minutes.
func TestP5_4Events(t *testing.T) {
	climb := api.Leg{Minutes: 3, Air: wind(only(100), only(0)), Up: only(10)}
	for _, x := range []struct{ roof, leg, minute int }{
		{100, 0, 0}, {109, 0, 0}, {110, 0, 1}, {120, 0, 2}, {129, 0, 2}, {130, 1, 0}, {140, 1, 1}, {150, 1, 2}, {160, 2, 0}, {189, 2, 2},
	} {
		a := plainly()
		a.legs, a.r.Roof = slices.Repeat([]api.Leg{climb}, 3), x.roof
		if l, event, e := flight.Fly(a.k, a.r, a.s, a.legs); e != api.ErrEvent || event != (api.Event{Kind: api.EventHigh, Leg: x.leg, Minute: x.minute}) || len(l) > 0 {
			t.Error(x, l, event, e)
		}
	}
	a := plainly()
	a.legs, a.r.Roof = slices.Repeat([]api.Leg{climb}, 3), 190
	if l, event, e := flight.Fly(a.k, a.r, a.s, a.legs); e != api.OK || event != (api.Event{}) || len(l) != 9 {
		t.Error(l, event, e)
	}
	// What happens to a cell is told with the cell.
	a.s.Gas = plant(cell(900, 110, 0), cell(31, 110, 0))
	if _, event, e := flight.Fly(a.k, a.r, a.s, a.legs); e != api.ErrEvent || event != (api.Event{Kind: api.EventPress, Leg: 0, Minute: 0, Cell: 1}) {
		t.Error(event, e)
	}
	a.s.Height = only(950)
	a.s.Gas = plant(cell(900, 110, 0))
	for _, l := range [][]api.Leg{nil, {}} {
		if ships, event, e := flight.Fly(a.k, a.r, a.s, l); e != api.OK || event != (api.Event{}) || len(ships) > 0 {
			t.Error(ships, event, e)
		}
	}
}

// The longest flight.
func TestP5_4Longest(t *testing.T) {
	a := plainly()
	hover := api.Leg{Minutes: 30, Air: wind(span(-15, -10), only(0)), Burn: span(0, 1), Drop: 5}
	a.legs, a.r.Region = slices.Repeat([]api.Leg{hover}, 20), box(100, 5000)
	l, event, e := flight.Fly(a.k, a.r, a.s, a.legs)
	if e != api.OK || event != (api.Event{}) || len(l) != 600 {
		t.Fatal(len(l), event, e)
	}
	want := plainShip()
	want.Ballast, want.Dropped = 400, 100
	want.X, want.Fuel, want.Burnt, want.Water = span(-18000, 36000), span(400, 1000), span(0, 600), span(0, 30)
	isShip(t, "flown", l[599], want)
	if e := flight.Accept(a.k, a.r, a.s, a.legs, l); e != api.OK {
		t.Error(e)
	}
}
