package flight_test

import (
	"math"
	"slices"
	"testing"

	"ballonet/api"
	"ballonet/bound"
	"ballonet/flight"
)

func span(lo, hi int) api.Span { return api.Span{Lo: lo, Hi: hi} }

func only(n int) api.Span { return span(n, n) }

func wind(x, y api.Span) api.Wind { return api.Wind{X: x, Y: y} }

func act(kind uint8, cell, to, n int) api.GasAct {
	return api.GasAct{Kind: kind, Cell: cell, To: to, N: n}
}

// calm is the sky of the chapter's examples.
func calm() api.Sky {
	return api.Sky{
		Sounding: []api.Level{
			{Height: 0, Press: only(10000), Temp: only(2800)},
			{Height: 1000, Press: span(8850, 8853), Temp: only(2800)},
		},
		Winds: []api.Gale{{Height: 0, Wind: wind(span(10, 20), only(0))}},
	}
}

// box is the region of all speeds from 0 on, and all heavinesses, up to some.
func box(speed, heavy int) []api.Corner {
	return []api.Corner{{X: 0, Y: -heavy}, {X: speed, Y: -heavy}, {X: speed, Y: heavy}, {X: 0, Y: heavy}}
}

// plainRig is the rig of the chapter's examples.
func plainRig() api.Rig {
	return api.Rig{Region: box(200, 2000), Regain: span(50, 100), Tank: 30, Reserve: 100, Floor: 0, Roof: 900}
}

// balanced returns a plant with what must have come in.
func balanced(p api.Plant) api.Plant {
	p.In = api.Pair{Helium: p.Bottles}
	for _, c := range p.Cells {
		p.In.Helium += c.Helium
		p.In.Air += c.Air
	}
	for _, x := range []api.Pair{p.Valved, p.Leaked, p.Purged} {
		p.In.Helium += x.Helium
		p.In.Air += x.Air
	}
	return p
}

func plant(cells ...api.Cell) api.Plant { return balanced(api.Plant{Cells: cells}) }

func cell(room, helium, air int) api.Cell { return api.Cell{Room: room, Helium: helium, Air: air} }

// plainShip is the ship of the chapter's examples.
func plainShip() api.Ship {
	return api.Ship{Height: only(100), Fuel: only(1000), Dry: 4000, Ballast: 500, Gas: plant(cell(70, 220, 0))}
}

// used is a ship of which hardly anything is known exactly, and with which something of all has happened.
func used() api.Ship {
	leaky := api.Cell{Room: 90, Helium: 150, Air: 40, Warm: span(-5, 20), Leak: 9000, Owed: 999999}
	return api.Ship{
		X: span(-30, 40), Y: span(500, 600), Height: span(300, 350),
		Fuel: span(700, 900), Water: span(3, 20), Burnt: span(50, 250),
		Dry: 7000, Ballast: 120, Dropped: 77,
		Gas: balanced(api.Plant{
			Cells: []api.Cell{cell(70, 200, 10), leaky}, Bottles: 5,
			Valved: api.Pair{Helium: 1, Air: 2}, Leaked: api.Pair{Helium: 3, Air: 4}, Purged: api.Pair{Helium: 5, Air: 6},
		}),
	}
}

// plainLeg is the leg of the chapter's examples.
func plainLeg() api.Leg {
	return api.Leg{Minutes: 2, Air: wind(only(100), only(0)), Up: span(40, 60), Burn: span(10, 20), Drop: 100}
}

// changed returns copies that are changed by f.
func changed[T any](good func() T, f ...func(x *T)) []T {
	var l []T
	for _, f := range f {
		x := good()
		f(&x)
		l = append(l, x)
	}
	return l
}

// beyond returns numbers that are not from least to most.
func beyond(least, most int) []int {
	return []int{least - 1, most + 1, least - 1<<32, most + 1<<32, math.MinInt, math.MaxInt}
}

// badSpans returns spans that are not within least to most, or not in order.
func badSpans(least, most int) []api.Span {
	bad := []api.Span{span(least+1, least), span(most, most-1), span(most, least), span(math.MaxInt, math.MinInt)}
	for _, n := range beyond(least, most) {
		bad = append(bad, only(n), span(n, most), span(least, n))
	}
	return bad
}

// goodSpans returns spans from least to most, also those of the ends alone.
func goodSpans(least, most int) []api.Span {
	return []api.Span{span(least, most), only(least), only(most), span(least, least+1), span(most-1, most)}
}

// with returns copies in which a part is each of some values.
func with[T, P any](good func() T, part func(x *T) *P, values []P) []T {
	var l []T
	for _, v := range values {
		x := good()
		*part(&x) = v
		l = append(l, x)
	}
	return l
}

// ends returns copies in which a number is the least or the most that it may be.
func ends[T any](good func() T, part func(x *T) *int, least, most int) []T {
	return with(good, part, []int{least, most})
}

func goodSkies() []api.Sky {
	still := func() api.Sky { return api.Sky{Sounding: calm().Sounding, Winds: []api.Gale{{}}} }
	return append(changed(calm,
		// An air that fits need not be one of each of the pressures.
		func(k *api.Sky) { k.Sounding[1].Press = span(8000, 9000) },
		func(k *api.Sky) { k.Winds = slices.Repeat(k.Winds, 16); spread(k.Winds) },
		func(k *api.Sky) { k.Winds[0].Height = 9000 },
	), calm(), still())
}

// spread gives each gale a height of its own.
func spread(l []api.Gale) {
	for i := range l {
		l[i].Height = i
	}
}

func badSkies() []api.Sky {
	return append(changed(calm,
		func(k *api.Sky) { k.Sounding = nil },
		func(k *api.Sky) { k.Sounding = k.Sounding[:1] },
		func(k *api.Sky) { k.Sounding = slices.Repeat(k.Sounding, 40) },
		func(k *api.Sky) { k.Sounding[0].Height = 1000 },
		func(k *api.Sky) { k.Sounding[0].Height = math.MinInt },
		func(k *api.Sky) { k.Sounding[1].Height = 2001 },
		func(k *api.Sky) { k.Sounding[1].Press = span(8853, 8850) },
		func(k *api.Sky) { k.Sounding[0].Press = only(12001) },
		func(k *api.Sky) { k.Sounding[0].Temp = only(1499) },
		// These are soundings, but no air fits them.
		func(k *api.Sky) { k.Sounding[0].Press = only(9000) },
		func(k *api.Sky) { k.Sounding[1].Press = only(9990) },
		func(k *api.Sky) { k.Sounding[1].Press = only(8000) },
		func(k *api.Sky) { k.Winds = nil },
		func(k *api.Sky) { k.Winds = []api.Gale{} },
		func(k *api.Sky) { k.Winds = append(k.Winds, k.Winds[0]) },
		func(k *api.Sky) { k.Winds = slices.Repeat(k.Winds, 17); spread(k.Winds) },
		func(k *api.Sky) { k.Winds[0].Height = -501 },
		func(k *api.Sky) { k.Winds[0].Gust = 501 },
		func(k *api.Sky) { k.Winds[0].Wind.X = span(20, 10) },
		func(k *api.Sky) { k.Winds[0].Wind.Y = only(1001) },
	), api.Sky{})
}

func regain(r *api.Rig) *api.Span { return &r.Regain }
func tank(r *api.Rig) *int        { return &r.Tank }
func reserve(r *api.Rig) *int     { return &r.Reserve }
func floor(r *api.Rig) *int       { return &r.Floor }
func roof(r *api.Rig) *int        { return &r.Roof }

func goodRigs() []api.Rig {
	return slices.Concat([]api.Rig{plainRig(), {Region: []api.Corner{{}}}},
		with(plainRig, regain, goodSpans(0, 120)),
		ends(plainRig, tank, 0, api.MaxDry),
		ends(plainRig, reserve, 0, api.MaxDry),
		ends(plainRig, floor, -500, 900),
		ends(plainRig, roof, 0, 9000),
		changed(plainRig,
			func(r *api.Rig) { r.Region = box(api.MaxCorner, api.MaxCorner) },
			func(r *api.Rig) { r.Region = []api.Corner{{X: -5, Y: 7}} },
		),
	)
}

func badRigs() []api.Rig {
	return slices.Concat([]api.Rig{{}},
		with(plainRig, regain, badSpans(0, 120)),
		with(plainRig, tank, beyond(0, api.MaxDry)),
		with(plainRig, reserve, beyond(0, api.MaxDry)),
		with(plainRig, floor, beyond(-500, 900)),
		with(plainRig, roof, beyond(0, 9000)),
		changed(plainRig,
			func(r *api.Rig) { r.Region = nil },
			func(r *api.Rig) { r.Region = slices.Repeat(r.Region, 30) },
			func(r *api.Rig) { r.Region = box(200, api.MaxCorner+1) },
			func(r *api.Rig) { slices.Reverse(r.Region) },
			func(r *api.Rig) { r.Region[0], r.Region[1] = r.Region[1], r.Region[0] },
			func(r *api.Rig) { r.Floor, r.Roof = 900, 899 },
		),
	)
}

func placeX(s *api.Ship) *api.Span { return &s.X }
func placeY(s *api.Ship) *api.Span { return &s.Y }
func height(s *api.Ship) *api.Span { return &s.Height }
func fuel(s *api.Ship) *api.Span   { return &s.Fuel }
func water(s *api.Ship) *api.Span  { return &s.Water }
func burnt(s *api.Ship) *api.Span  { return &s.Burnt }
func dry(s *api.Ship) *int         { return &s.Dry }
func ballast(s *api.Ship) *int     { return &s.Ballast }
func dropped(s *api.Ship) *int     { return &s.Dropped }

func goodShips() []api.Ship {
	return slices.Concat([]api.Ship{plainShip(), used(), {}},
		with(used, placeX, goodSpans(-10000000, 10000000)),
		with(used, placeY, goodSpans(-10000000, 10000000)),
		with(used, height, goodSpans(-500, 9000)),
		with(used, fuel, goodSpans(0, 1000000000)),
		with(used, water, goodSpans(0, 1000000000)),
		with(used, burnt, goodSpans(0, 1000000000000)),
		ends(used, dry, 0, 1000000000),
		ends(used, ballast, 0, 1000000000),
		ends(used, dropped, 0, 1000000000000),
	)
}

func badShips() []api.Ship {
	return slices.Concat(
		with(used, placeX, badSpans(-10000000, 10000000)),
		with(used, placeY, badSpans(-10000000, 10000000)),
		with(used, height, badSpans(-500, 9000)),
		with(used, fuel, badSpans(0, 1000000000)),
		with(used, water, badSpans(0, 1000000000)),
		with(used, burnt, badSpans(0, 1000000000000)),
		with(used, dry, beyond(0, 1000000000)),
		with(used, ballast, beyond(0, 1000000000)),
		with(used, dropped, beyond(0, 1000000000000)),
		changed(used,
			func(s *api.Ship) { s.Gas.In.Helium++ },
			func(s *api.Ship) { s.Gas.Cells[1].Air++ },
			func(s *api.Ship) { s.Gas = plant(cell(0, 1, 1)) },
			func(s *api.Ship) { s.Gas = plant(slices.Repeat([]api.Cell{cell(1, 1, 1)}, 13)...) },
			func(s *api.Ship) { s.Gas = api.Plant{In: api.Pair{Helium: 1}} },
		),
	)
}

func minutes(l *api.Leg) *int   { return &l.Minutes }
func airX(l *api.Leg) *api.Span { return &l.Air.X }
func airY(l *api.Leg) *api.Span { return &l.Air.Y }
func up(l *api.Leg) *api.Span   { return &l.Up }
func burn(l *api.Leg) *api.Span { return &l.Burn }
func drop(l *api.Leg) *int      { return &l.Drop }
func order(l *api.Leg) *uint8   { return &l.Acts[3].Kind }

// withOrders returns a leg with so many acts.
func withOrders(n int) api.Leg {
	l := plainLeg()
	l.Acts = slices.Repeat([]api.GasAct{act(api.GasValve, 0, 0, 1)}, n)
	return l
}

func fiveOrders() api.Leg { return withOrders(5) }

func goodLegs() []api.Leg {
	return slices.Concat([]api.Leg{plainLeg(), {Minutes: 1}, withOrders(1), withOrders(12)},
		ends(plainLeg, minutes, 1, 600),
		with(plainLeg, airX, goodSpans(-1000, 1000)),
		with(plainLeg, airY, goodSpans(-1000, 1000)),
		with(plainLeg, up, goodSpans(-300, 300)),
		with(plainLeg, burn, goodSpans(0, 1000000)),
		ends(plainLeg, drop, 0, 1000000000),
		with(fiveOrders, order, []uint8{api.GasValve, api.GasMove}),
		// Which cells there are, and what is in them, is seen only when an act is done.
		changed(plainLeg, func(l *api.Leg) { l.Acts = []api.GasAct{act(api.GasMove, -1, math.MaxInt, math.MinInt)} }),
	)
}

func badLegs() []api.Leg {
	return slices.Concat([]api.Leg{{}, withOrders(13), withOrders(1000)},
		with(plainLeg, minutes, beyond(1, 600)),
		with(plainLeg, airX, badSpans(-1000, 1000)),
		with(plainLeg, airY, badSpans(-1000, 1000)),
		with(plainLeg, up, badSpans(-300, 300)),
		with(plainLeg, burn, badSpans(0, 1000000)),
		with(plainLeg, drop, beyond(0, 1000000000)),
		with(fiveOrders, order, []uint8{0, api.GasBuy, api.GasFill, api.GasPurify, api.GasBreathe, api.GasTick, 8, 255}),
	)
}

// checks checks what a check says of what is good and of what is bad.
func checks[T any](t *testing.T, check func(x T) api.Errno, good, bad []T, isBad api.Errno) {
	t.Helper()
	for i, x := range good {
		if e := check(x); e != api.OK {
			t.Error(i, x, e)
		}
	}
	for i, x := range bad {
		if e := check(x); e != isBad {
			t.Error(i, x, e)
		}
	}
}

func TestP5_1Checks(t *testing.T) {
	checks(t, flight.CheckSky, goodSkies(), badSkies(), 50)
	checks(t, flight.CheckRig, goodRigs(), badRigs(), 51)
	checks(t, flight.CheckShip, goodShips(), badShips(), 52)
	checks(t, func(l api.Leg) api.Errno { return flight.CheckLegs([]api.Leg{l}) }, goodLegs(), badLegs(), 53)
}

func legs(minutes ...int) []api.Leg {
	var l []api.Leg
	for _, n := range minutes {
		l = append(l, api.Leg{Minutes: n})
	}
	return l
}

func TestP5_1CheckLegs(t *testing.T) {
	bad := api.Leg{Minutes: 601}
	for i, x := range []struct {
		l    []api.Leg
		want api.Errno
	}{
		{nil, api.OK},
		{[]api.Leg{}, api.OK},
		{legs(600), api.OK},
		{legs(1, 599), api.OK},
		{legs(1, 600), api.ErrMany},
		{legs(300, 301), api.ErrMany},
		{legs(200, 200, 200), api.OK},
		{legs(200, 200, 200, 1), api.ErrMany},
		{slices.Repeat(legs(30), 20), api.OK},
		{append(slices.Repeat(legs(30), 19), legs(31)...), api.ErrMany},
		{slices.Repeat(legs(1), 21), api.ErrMany},
		{slices.Repeat(legs(1), 1000), api.ErrMany},
		// More than MaxLegs legs come first, then what is not valid, then too many minutes.
		{slices.Repeat([]api.Leg{bad}, 21), api.ErrMany},
		{append(legs(600, 600), bad), api.ErrLeg},
		{append([]api.Leg{bad}, legs(600, 600)...), api.ErrLeg},
		{append(legs(1), bad), api.ErrLeg},
		{legs(600, math.MinInt), api.ErrLeg},
		{legs(600, -1), api.ErrLeg},
	} {
		if e := flight.CheckLegs(x.l); e != x.want {
			t.Error(i, e)
		}
	}
}

func samePlant(p, q api.Plant) bool {
	return slices.Equal(p.Cells, q.Cells) && p.Bottles == q.Bottles && p.In == q.In && p.Valved == q.Valved && p.Leaked == q.Leaked && p.Purged == q.Purged
}

func same(a, b api.Ship) bool {
	return a.X == b.X && a.Y == b.Y && a.Height == b.Height && a.Fuel == b.Fuel && a.Water == b.Water && a.Burnt == b.Burnt &&
		a.Dry == b.Dry && a.Ballast == b.Ballast && a.Dropped == b.Dropped && samePlant(a.Gas, b.Gas)
}

func isNothing(s api.Ship) bool { return same(s, api.Ship{}) }

// asked is what may be asked of a flight.
type asked struct {
	k    api.Sky
	r    api.Rig
	s    api.Ship
	legs []api.Leg
}

func plainly() asked { return asked{calm(), plainRig(), plainShip(), []api.Leg{plainLeg()}} }

// refused checks that all functions of what is asked return an error, and nothing beside it. What a function does not have as an argument is not asked of it.
func (a asked) refused(t *testing.T, sky, rig, ship, legs api.Errno) {
	t.Helper()
	first := func(l ...api.Errno) api.Errno {
		return append(slices.DeleteFunc(l, func(e api.Errno) bool { return e == api.OK }), api.OK)[0]
	}
	check := func(name string, e, want api.Errno, zero bool) {
		t.Helper()
		if want != api.OK && (e != want || !zero) {
			t.Error(name, a, e, "want", want, zero)
		}
	}
	h, e := flight.Heavy(a.k, a.s)
	check("Heavy", e, first(sky, ship), h == api.Span{})
	acts, e := flight.Vent(a.k, a.s, span(5, 4))
	check("Vent", e, first(sky, ship, api.ErrSpan), len(acts) == 0)
	top, e := flight.Tops(a.k, a.s)
	check("Tops", e, first(sky, ship), top == 0)
	leg := api.Leg{}
	if len(a.legs) > 0 {
		leg = a.legs[0]
	}
	one := flight.CheckLegs([]api.Leg{leg})
	s, e := flight.Begin(a.s, leg)
	check("Begin", e, first(ship, one), isNothing(s))
	s, event, e := flight.Step(a.k, a.r, a.s, leg)
	check("Step", e, first(sky, rig, ship, one), isNothing(s) && event == api.Event{})
	l, event, e := flight.Fly(a.k, a.r, a.s, a.legs)
	check("Fly", e, first(sky, rig, ship, legs), len(l) == 0 && event == api.Event{})
	e = flight.Accept(a.k, a.r, a.s, a.legs, make([]api.Ship, 7))
	check("Accept", e, first(sky, rig, ship, legs, api.ErrBad), true)
}

// R1 and R2: the errors come in the order sky, rig, ship, legs.
func TestP5_1Order(t *testing.T) {
	for i := range 32 {
		a, sky, rig, ship, l := plainly(), api.OK, api.OK, api.OK, api.OK
		if i&1 > 0 {
			a.k.Winds, sky = nil, api.ErrSky
		}
		if i&2 > 0 {
			a.r.Region, rig = nil, api.ErrRig
		}
		if i&4 > 0 {
			a.s.Dry, ship = -1, api.ErrShip
		}
		if i&8 > 0 {
			a.legs[0].Minutes, l = 0, api.ErrLeg
		}
		if i&16 > 0 {
			a.legs, l = slices.Repeat(a.legs, 21), api.ErrMany
		}
		a.refused(t, sky, rig, ship, l)
	}
}

func TestP5_1Refused(t *testing.T) {
	for _, k := range badSkies() {
		a := plainly()
		a.k = k
		a.refused(t, api.ErrSky, api.OK, api.OK, api.OK)
	}
	for _, r := range badRigs() {
		a := plainly()
		a.r = r
		a.refused(t, api.OK, api.ErrRig, api.OK, api.OK)
	}
	for _, s := range badShips() {
		a := plainly()
		a.s = s
		a.refused(t, api.OK, api.OK, api.ErrShip, api.OK)
	}
	for _, l := range badLegs() {
		a := plainly()
		a.legs[0] = l
		a.refused(t, api.OK, api.OK, api.OK, api.ErrLeg)
	}
}

func TestP5_1Holds(t *testing.T) {
	is := func(want bool, a, b api.Ship) {
		t.Helper()
		if got, e := flight.Holds(a, b); got != want || e != api.OK {
			t.Error(a, b, got, e)
		}
	}
	for _, s := range goodShips() {
		is(true, s, s)
	}
	for _, part := range parts() {
		within, around := span(50, 60), []api.Span{span(50, 60), span(49, 60), span(50, 61), span(0, 100)}
		for _, inner := range with(used, part, []api.Span{within, only(50), only(60), span(51, 59)}) {
			for _, outer := range with(used, part, around) {
				is(true, outer, inner)
				is(*part(&outer) == *part(&inner), inner, outer)
			}
		}
		for _, other := range with(used, part, []api.Span{span(49, 60), span(50, 61), only(49), only(61), span(40, 49), span(0, 100)}) {
			is(false, with(used, part, []api.Span{within})[0], other)
		}
	}
	// All but the spans has to be the same, and what is known of a cell's superheat is a part of the gas.
	for _, other := range changed(used,
		func(s *api.Ship) { s.Dry++ },
		func(s *api.Ship) { s.Ballast-- },
		func(s *api.Ship) { s.Dropped++ },
		func(s *api.Ship) { s.Gas.Bottles++; s.Gas.In.Helium++ },
		func(s *api.Ship) { s.Gas.Bottles++; s.Gas.Valved.Helium-- },
		func(s *api.Ship) { s.Gas.Valved.Air++; s.Gas.In.Air++ },
		func(s *api.Ship) { s.Gas.Leaked.Helium--; s.Gas.Purged.Helium++ },
		func(s *api.Ship) { s.Gas.Purged.Air++; s.Gas.Leaked.Air-- },
		func(s *api.Ship) { s.Gas.Cells[0].Room++ },
		func(s *api.Ship) { s.Gas.Cells[0].Helium++; s.Gas.Cells[1].Helium-- },
		func(s *api.Ship) { s.Gas.Cells[0].Leak++ },
		func(s *api.Ship) { s.Gas.Cells[1].Owed-- },
		func(s *api.Ship) { s.Gas.Cells[1].Warm.Hi-- },
		func(s *api.Ship) { s.Gas.Cells[1].Warm.Lo++ },
		func(s *api.Ship) { slices.Reverse(s.Gas.Cells) },
		func(s *api.Ship) { s.Gas.Cells = append(s.Gas.Cells, cell(1, 0, 0)) },
	) {
		is(false, used(), other)
		is(false, other, used())
	}
	for _, bad := range badShips() {
		for _, x := range [][2]api.Ship{{bad, used()}, {used(), bad}, {bad, bad}} {
			if got, e := flight.Holds(x[0], x[1]); got || e != api.ErrShip {
				t.Error(x, got, e)
			}
		}
	}
}

// Holds is true exactly if each span is joined to itself.
func TestP5_1HoldsSpans(t *testing.T) {
	ends := []int{0, 1, 2}
	for i := range 81 {
		a, b := span(ends[i%3], ends[i/3%3]), span(ends[i/9%3], ends[i/27])
		want, e := bound.Holds(a, b)
		got, _ := flight.Holds(with(used, water, []api.Span{a})[0], with(used, water, []api.Span{b})[0])
		if e == api.OK && got != want {
			t.Error(a, b, got)
		}
	}
}
