package flight_test

import (
	"math"
	"math/rand"
	"slices"
	"testing"

	"ballonet/api"
	"ballonet/flight"
)

// roomy returns a list with room behind it, in which there is something else.
func roomy[T any](l []T, behind T) []T {
	return append(slices.Clone(l), behind, behind, behind)[:len(l)]
}

// whole returns all of a list's memory.
func whole[T any](l []T) []T { return l[:cap(l)] }

// spoil writes over all of a list's memory.
func spoil[T any](l []T, with T) {
	for i := range whole(l) {
		whole(l)[i] = with
	}
}

func roomyShip(s api.Ship) api.Ship {
	s.Gas.Cells = roomy(s.Gas.Cells, cell(7, 7, 7))
	return s
}

func roomyLeg(l api.Leg) api.Leg {
	l.Acts = roomy(l.Acts, act(api.GasTick, 0, 0, 9))
	return l
}

// roomyAsked returns what is asked with room behind all of its lists.
func roomyAsked(a asked) asked {
	a.k.Sounding, a.k.Winds = roomy(a.k.Sounding, api.Level{Height: 7}), roomy(a.k.Winds, api.Gale{Height: 7})
	a.r.Region = roomy(a.r.Region, api.Corner{X: 7})
	a.s = roomyShip(a.s)
	legs := make([]api.Leg, 0, len(a.legs)+3)
	for _, l := range a.legs {
		legs = append(legs, roomyLeg(l))
	}
	a.legs = roomy(legs, roomyLeg(plainLeg()))
	return a
}

// memory is a copy of all that the lists of what is asked have, and of what is behind them.
type memory struct {
	levels  []api.Level
	gales   []api.Gale
	corners []api.Corner
	cells   []api.Cell
	legs    []api.Leg
}

func memoryOf(a asked) memory {
	m := memory{
		slices.Clone(whole(a.k.Sounding)), slices.Clone(whole(a.k.Winds)), slices.Clone(whole(a.r.Region)),
		slices.Clone(whole(a.s.Gas.Cells)), slices.Clone(whole(a.legs)),
	}
	for i, l := range m.legs {
		m.legs[i].Acts = slices.Clone(whole(l.Acts))
	}
	return m
}

func sameLeg(a, b api.Leg) bool {
	return a.Minutes == b.Minutes && a.Air == b.Air && a.Up == b.Up && a.Burn == b.Burn && a.Drop == b.Drop && slices.Equal(a.Acts, b.Acts)
}

func (m memory) is(n memory) bool {
	return slices.Equal(m.levels, n.levels) && slices.Equal(m.gales, n.gales) && slices.Equal(m.corners, n.corners) &&
		slices.Equal(m.cells, n.cells) && slices.EqualFunc(m.legs, n.legs, sameLeg)
}

// R3: arguments are only read, also what is behind their lists.
func TestP1Untouched(t *testing.T) {
	r := rand.New(rand.NewSource(61))
	for range 400 {
		a := roomyAsked(someAsked(r))
		before := memoryOf(a)
		leg := roomyLeg(someLeg(r, a.s))
		acts := slices.Clone(whole(leg.Acts))
		cert := certOf(r, a)
		cells := cellsOf(cert)
		flight.CheckSky(a.k)
		flight.CheckRig(a.r)
		flight.CheckShip(a.s)
		flight.CheckLegs(a.legs)
		flight.Holds(a.s, a.s)
		flight.Heavy(a.k, a.s)
		flight.Vent(a.k, a.s, a.s.Height)
		flight.Tops(a.k, a.s)
		flight.Begin(a.s, leg)
		flight.Step(a.k, a.r, a.s, leg)
		a.fly()
		a.accept(cert)
		if !memoryOf(a).is(before) || !slices.Equal(whole(leg.Acts), acts) || !slices.EqualFunc(cellsOf(cert), cells, slices.Equal) {
			t.Fatal("changed", before, "to", a)
		}
	}
}

// certOf returns ships that may be a certificate, with room behind their lists.
func certOf(r *rand.Rand, a asked) []api.Ship {
	l, _ := certified(r, a)
	for i := range l {
		l[i] = roomyShip(l[i])
	}
	return roomy(l, roomyShip(used()))
}

// cellsOf returns a copy of all cells of ships, and of what is behind them.
func cellsOf(l []api.Ship) [][]api.Cell {
	var all [][]api.Cell
	for _, s := range whole(l) {
		all = append(all, slices.Clone(whole(s.Gas.Cells)))
	}
	return all
}

// R3: results share no memory with arguments, nor with one another.
func TestP1NewMemory(t *testing.T) {
	other := cell(7, 7, 7)
	l := api.Leg{Minutes: 3, Air: wind(only(100), only(0))}
	for i, acts := range [][]api.GasAct{nil, {act(api.GasValve, 0, 0, 1)}} {
		l.Acts = acts
		a := plainly()
		a.s, a.legs, a.r.Region = roomyShip(used()), []api.Leg{l, l}, box(1000, api.MaxCorner)
		begun := begins(t, a.s, l)
		want := begins(t, used(), l)
		spoil(begun.Gas.Cells, other)
		isShip(t, i, a.s, used())
		stepped := steps(t, a.k, a.r, a.s, l)
		spoil(stepped.Gas.Cells, other)
		isShip(t, i, a.s, used())
		begun = begins(t, a.s, l)
		spoil(a.s.Gas.Cells, other)
		isShip(t, i, begun, want)
		a.s = used()
		ships := a.flies(t)
		for j := range ships {
			before := a.flies(t)
			spoil(ships[j].Gas.Cells, other)
			for k := j + 1; k < len(ships); k++ {
				isShip(t, []int{i, j, k}, ships[k], before[k])
			}
		}
		isShip(t, i, a.s, used())
	}
	s := filled(300)
	acts, _ := flight.Vent(calm(), s, only(100))
	want := slices.Clone(acts)
	spoil(acts, api.GasAct{})
	if again, e := flight.Vent(calm(), s, only(100)); e != api.OK || len(want) != 1 || !slices.Equal(again, want) {
		t.Error(again, want, e)
	}
}

// R4: lists that are nil and lists that are empty are the same.
func TestP1Empty(t *testing.T) {
	for _, cells := range [][]api.Cell{nil, {}, make([]api.Cell, 0, 9)} {
		for _, acts := range [][]api.GasAct{nil, {}, make([]api.GasAct, 0, 9)} {
			a := plainly()
			a.s = api.Ship{Fuel: only(1000), Gas: api.Plant{Cells: cells}}
			a.r.Region, a.legs[0].Acts, a.legs[0].Drop = box(1000, 5000), acts, 0
			if is, e := flight.Holds(a.s, api.Ship{Fuel: only(1000)}); !is || e != api.OK {
				t.Error(is, e)
			}
			if is, e := flight.Holds(api.Ship{Fuel: only(1000)}, a.s); !is || e != api.OK {
				t.Error(is, e)
			}
			isHeavy(t, a.k, a.s, only(1000))
			l := a.flies(t)
			for i := range l {
				l[i].Gas.Cells = cells
			}
			if e := a.accept(l); e != api.OK {
				t.Error(e)
			}
		}
	}
	for _, l := range [][]api.Leg{nil, {}, make([]api.Leg, 0, 9)} {
		for _, cert := range [][]api.Ship{nil, {}, make([]api.Ship, 0, 9)} {
			a := plainly()
			a.legs = l
			if e := a.accept(cert); e != api.OK {
				t.Error(e)
			}
		}
	}
}

// wild returns any number, most often one at which something overflows or ends.
func wild(r *rand.Rand) int {
	base := []int{0, 0, 1, 120, 300, 500, 600, 1000, 9000, 10000000, api.MaxDry, api.MaxBooks, api.MaxBound, 1 << 31, 1 << 32, 1 << 62, math.MaxInt, math.MinInt}
	n := base[r.Intn(len(base))] + r.Intn(3) - 1
	if r.Intn(2) == 0 {
		return -n
	}
	return n
}

// wildOne puts something wild into one of some numbers, now and then.
func wildOne(r *rand.Rand, n ...*int) {
	if r.Intn(10) == 0 {
		*n[r.Intn(len(n))] = wild(r)
	}
}

func wildSpans(r *rand.Rand, l ...*api.Span) {
	for _, s := range l {
		if r.Intn(4) == 0 {
			wildOne(r, &s.Lo, &s.Hi)
		}
	}
}

func wildShip(r *rand.Rand, s api.Ship) api.Ship {
	wildSpans(r, &s.X, &s.Y, &s.Height, &s.Fuel, &s.Water, &s.Burnt)
	wildOne(r, &s.Dry, &s.Ballast, &s.Dropped, &s.Gas.Bottles)
	if len(s.Gas.Cells) > 0 {
		s.Gas.Cells = slices.Clone(s.Gas.Cells)
		c := &s.Gas.Cells[0]
		wildOne(r, &c.Room, &c.Helium, &c.Air, &c.Leak, &c.Owed, &c.Warm.Lo, &c.Warm.Hi)
	}
	if r.Intn(2) == 0 {
		s.Gas = balanced(s.Gas)
	}
	return s
}

func wildLeg(r *rand.Rand, l api.Leg) api.Leg {
	wildOne(r, &l.Minutes, &l.Drop)
	wildSpans(r, &l.Air.X, &l.Air.Y, &l.Up, &l.Burn)
	for i := range l.Acts {
		a := &l.Acts[i]
		wildOne(r, &a.Cell, &a.To, &a.N)
		if r.Intn(20) == 0 {
			a.Kind = uint8(r.Intn(256))
		}
	}
	return l
}

func wildAsked(r *rand.Rand) asked {
	a := someAsked(r)
	level, gale := &a.k.Sounding[r.Intn(len(a.k.Sounding))], &a.k.Winds[r.Intn(len(a.k.Winds))]
	wildOne(r, &level.Height, &level.Press.Lo, &level.Press.Hi, &level.Temp.Lo, &level.Temp.Hi)
	wildOne(r, &gale.Height, &gale.Gust, &gale.Wind.X.Lo, &gale.Wind.Y.Hi)
	wildOne(r, &a.r.Regain.Lo, &a.r.Regain.Hi, &a.r.Tank, &a.r.Reserve, &a.r.Floor, &a.r.Roof, &a.r.Region[0].X)
	a.s = wildShip(r, a.s)
	for i := range a.legs {
		a.legs[i] = wildLeg(r, a.legs[i])
	}
	if len(a.legs) > 0 && r.Intn(20) == 0 {
		a.legs = slices.Repeat(a.legs, 1+r.Intn(30))
	}
	return a
}

// checker notes what is not as it has to be: what is returned is valid, and nothing is beside an error.
type checker struct {
	t   *testing.T
	oks map[string]int
}

func (c checker) check(name string, e api.Errno, valid, zero bool) {
	c.t.Helper()
	if e == api.OK {
		c.oks[name]++
	}
	if e == api.OK && !valid || e != api.OK && !zero {
		c.t.Error(name, e, valid, zero)
	}
}

// isEvent reports whether an event is one of some legs, if the error is ErrEvent, and nothing otherwise.
func isEvent(a asked, event api.Event, e api.Errno) bool {
	if e != api.ErrEvent {
		return event == api.Event{}
	}
	return event.Kind >= api.EventLow && event.Kind <= api.EventFar && event.Leg < len(a.legs) && event.Minute < a.legs[event.Leg].Minutes &&
		(event.Cell == 0 || event.Kind == api.EventPress && event.Cell < len(a.s.Gas.Cells))
}

// R2, R5, R6 and R7: whatever the arguments are, every call ends without a panic; what it returns is valid; and nothing is beside an error.
func TestP1Wild(t *testing.T) {
	r := rand.New(rand.NewSource(62))
	c := checker{t, map[string]int{}}
	isValid := func(s api.Ship) bool { return flight.CheckShip(s) == api.OK }
	for range 8000 {
		a := wildAsked(r)
		other := wildShip(r, wide(r, a.s))
		is, e := flight.Holds(other, a.s)
		c.check("Holds", e, true, !is)
		heavy, e := flight.Heavy(a.k, a.s)
		c.check("Heavy", e, heavy.Lo <= heavy.Hi, heavy == only(0))
		h := a.s.Height
		wildSpans(r, &h)
		acts, e := flight.Vent(a.k, a.s, h)
		c.check("Vent", e, len(acts) <= len(a.s.Gas.Cells), len(acts) == 0)
		top, e := flight.Tops(a.k, a.s)
		c.check("Tops", e, top >= a.s.Height.Hi && top <= highest(a.k), top == 0)
		leg := wildLeg(r, someLeg(r, someShip(r)))
		s, e := flight.Begin(a.s, leg)
		c.check("Begin", e, isValid(s), isNothing(s))
		one := a
		one.legs = []api.Leg{leg}
		s, event, e := flight.Step(a.k, a.r, a.s, leg)
		c.check("Step", e, isValid(s) && isEvent(one, event, e), isNothing(s) && isEvent(one, event, e) && event.Minute == 0)
		l, event, e := a.fly()
		c.check("Fly", e, !slices.ContainsFunc(l, func(s api.Ship) bool { return !isValid(s) }) && isEvent(a, event, e), len(l) == 0 && isEvent(a, event, e))
		if len(l) > 0 {
			l[r.Intn(len(l))] = wildShip(r, l[0])
		} else {
			l = slices.Repeat([]api.Ship{other}, r.Intn(9))
		}
		e = a.accept(l)
		c.check("Accept", e, true, true)
	}
	for _, name := range []string{"Holds", "Heavy", "Vent", "Tops", "Begin", "Step", "Fly", "Accept"} {
		if c.oks[name] < 100 {
			t.Error("hardly anything is valid:", c.oks)
		}
	}
}

// R7: lists of any length are refused, or done with, at once.
func TestP1Long(t *testing.T) {
	const n = 1 << 20
	a := plainly()
	a.refused(t, api.OK, api.OK, api.OK, api.OK)
	long := a
	long.s.Gas.Cells = make([]api.Cell, n)
	long.refused(t, api.OK, api.OK, api.ErrShip, api.OK)
	long = a
	long.k.Sounding = make([]api.Level, n)
	long.refused(t, api.ErrSky, api.OK, api.OK, api.OK)
	long = a
	long.k.Winds = make([]api.Gale, n)
	long.refused(t, api.ErrSky, api.OK, api.OK, api.OK)
	long = a
	long.r.Region = make([]api.Corner, n)
	long.refused(t, api.OK, api.ErrRig, api.OK, api.OK)
	long = a
	long.legs = slices.Repeat(a.legs, n)
	long.refused(t, api.OK, api.OK, api.OK, api.ErrMany)
	long = a
	long.legs = []api.Leg{withOrders(n)}
	long.refused(t, api.OK, api.OK, api.OK, api.ErrLeg)
	if e := a.accept(make([]api.Ship, n)); e != api.ErrBad {
		t.Error(e)
	}
}
