package flight_test

import (
	"math"
	"math/rand"
	"slices"
	"testing"

	"ballonet/air"
	"ballonet/api"
	"ballonet/flight"
	"ballonet/gas"
)

// filled returns the ship of the chapter's examples with so much helium.
func filled(helium int) api.Ship {
	s := plainShip()
	s.Gas = plant(cell(70, helium, 0))
	return s
}

// at returns a ship at some heights.
func at(s api.Ship, heights api.Span) api.Ship {
	s.Height = heights
	return s
}

func isHeavy(t *testing.T, k api.Sky, s api.Ship, want api.Span) {
	t.Helper()
	if h, e := flight.Heavy(k, s); h != want || e != api.OK {
		t.Error(s, h, e, "want", want)
	}
}

func TestP5_2Heavy(t *testing.T) {
	isHeavy(t, calm(), plainShip(), only(0))
	// A unit of helium lifts 25.
	isHeavy(t, calm(), filled(221), only(-25))
	isHeavy(t, calm(), filled(0), only(5500))
	for _, s := range changed(plainShip,
		func(s *api.Ship) { s.Dry += 7 },
		func(s *api.Ship) { s.Ballast += 7 },
		func(s *api.Ship) { s.Fuel = only(1007) },
		func(s *api.Ship) { s.Water = only(7) },
		// What is gone weighs nothing.
		func(s *api.Ship) { s.Dry += 7; s.Dropped, s.Burnt = 1000, only(1000) },
	) {
		isHeavy(t, calm(), s, only(7))
	}
	s := plainShip()
	s.Fuel, s.Water = span(990, 1020), span(3, 5)
	isHeavy(t, calm(), s, span(-7, 25))
	// A superheat of 28 in a temperature of 2800 lifts a hundredth of the weight of the air in place of the cell, 29 * 220.
	warm := cell(80, 220, 0)
	warm.Warm = span(0, 28)
	s.Gas = plant(warm, cell(9, 2, 3))
	isHeavy(t, calm(), s, span(-7-64-50, 25-50))
	// All that a ship may have.
	most := api.Cell{Room: 1, Helium: api.MaxAmount, Air: api.MaxAmount}
	s = api.Ship{Fuel: only(api.MaxDry), Water: span(0, api.MaxDry), Dry: api.MaxDry, Ballast: api.MaxDry, Gas: plant(slices.Repeat([]api.Cell{most}, 12)...)}
	isHeavy(t, calm(), s, span(0, api.MaxDry))
	s = api.Ship{Gas: s.Gas}
	isHeavy(t, calm(), s, only(-12*250000000))
}

// Heavy is that in the air between all of the ship's heights.
func TestP5_2HeavyHeights(t *testing.T) {
	k := calm()
	k.Sounding[0].Temp, k.Sounding[1].Temp = only(2900), only(2610)
	s := plainShip()
	s.Gas.Cells[0].Warm = only(10)
	// 29 * 220 * 10 / 2900 is 22, / 2610 is 24.4.
	isHeavy(t, k, at(s, only(0)), only(-22))
	isHeavy(t, k, at(s, only(1000)), span(-25, -24))
	isHeavy(t, k, at(s, span(0, 1000)), span(-25, -22))
	isHeavy(t, k, at(s, span(0, 500)), span(-24, -22))
}

// P5.2: heights at which nothing is known of the air.
func TestP5_2HeightErrors(t *testing.T) {
	for _, h := range []api.Span{only(-1), only(1001), span(-1, 500), span(500, 1001), span(-500, 9000), only(9000)} {
		s := at(plainShip(), h)
		if heavy, e := flight.Heavy(calm(), s); e != api.ErrArg || heavy != only(0) {
			t.Error(h, heavy, e)
		}
		if top, e := flight.Tops(calm(), s); e != api.ErrArg || top != 0 {
			t.Error(h, top, e)
		}
		// To Vent it does not matter where the ship is.
		if acts, e := flight.Vent(calm(), s, only(0)); e != api.OK || len(acts) > 0 {
			t.Error(h, acts, e)
		}
		if acts, e := flight.Vent(calm(), filled(500), h); e != api.ErrArg || len(acts) > 0 {
			t.Error(h, acts, e)
		}
	}
	for _, h := range []api.Span{span(1, 0), span(1001, 1000), span(0, math.MaxInt), only(math.MinInt), span(0, api.MaxBound+1)} {
		if acts, e := flight.Vent(calm(), filled(500), h); e != api.ErrSpan || len(acts) > 0 {
			t.Error(h, acts, e)
		}
	}
	if acts, e := flight.Vent(calm(), filled(500), span(0, api.MaxBound)); e != api.ErrArg || len(acts) > 0 {
		t.Error(acts, e)
	}
}

func TestP5_2Vent(t *testing.T) {
	valve := func(cell, n int) api.GasAct { return act(api.GasValve, cell, 0, n) }
	several := plainShip()
	several.Gas = plant(cell(70, 200, 50), cell(70, 50, 0), cell(7, 30, 0))
	for i, x := range []struct {
		s    api.Ship
		h    api.Span
		want []api.GasAct
	}{
		// At 0 the room has 250 units, at 1000 it has 221.25 at the least pressure.
		{filled(250), only(0), nil},
		{filled(251), only(0), []api.GasAct{valve(0, 1)}},
		{filled(250), only(1000), []api.GasAct{valve(0, 29)}},
		{filled(250), span(0, 1000), []api.GasAct{valve(0, 29)}},
		{filled(221), only(1000), nil},
		{filled(222), only(1000), []api.GasAct{valve(0, 1)}},
		{several, span(0, 1000), []api.GasAct{valve(0, 29), valve(2, 8)}},
		{several, only(0), []api.GasAct{valve(2, 5)}},
		{api.Ship{}, only(0), nil},
	} {
		if acts, e := flight.Vent(calm(), x.s, x.h); !slices.Equal(acts, x.want) || e != api.OK {
			t.Error(i, acts, e)
		}
	}
	// More may be told than one act can do.
	s := plainShip()
	s.Gas = plant(cell(1, api.MaxAmount, api.MaxAmount))
	if acts, e := flight.Vent(calm(), s, only(0)); !slices.Equal(acts, []api.GasAct{valve(0, 2*api.MaxAmount-3)}) || e != api.OK {
		t.Error(acts, e)
	}
}

func TestP5_2Tops(t *testing.T) {
	cooling := calm()
	cooling.Sounding[0].Temp = only(2900)
	// Of 2850, the temperature at 500, the room has 230 units down to a pressure of 9364.3; at 520 it is from 9365 on, at 521 from 9364. Of 2900, that at 0, it has so many down to 9528.6.
	steep := api.Ship{Gas: plant(cell(70, 230, 0))}
	for i, x := range []struct {
		k    api.Sky
		s    api.Ship
		want int
		e    api.Errno
	}{
		{calm(), plainShip(), 1000, api.OK},
		{calm(), at(filled(250), only(0)), 0, api.OK},
		{calm(), at(filled(251), only(0)), 0, api.ErrNone},
		{calm(), filled(250), 0, api.ErrNone},
		{calm(), at(filled(221), only(1000)), 1000, api.OK},
		{calm(), at(filled(222), only(1000)), 0, api.ErrNone},
		{calm(), at(filled(222), only(999)), 0, api.ErrNone},
		{calm(), at(filled(1000), span(0, 1000)), 0, api.ErrNone},
		{calm(), api.Ship{Height: span(3, 5)}, 1000, api.OK},
		{calm(), api.Ship{Height: only(1000)}, 1000, api.OK},
		{cooling, at(steep, span(0, 500)), 0, api.ErrNone},
		{cooling, at(steep, only(500)), 520, api.OK},
		{cooling, at(steep, only(0)), 386, api.OK},
		{cooling, at(steep, span(0, 387)), 0, api.ErrNone},
	} {
		if top, e := flight.Tops(x.k, x.s); top != x.want || e != x.e {
			t.Error(i, top, e)
		}
	}
}

// fitsUpTo reports whether all cells fit in the air between two heights.
func fitsUpTo(t *testing.T, k api.Sky, cells []api.Cell, h api.Span) bool {
	t.Helper()
	around, e := air.At(k.Sounding, h)
	if e != api.OK {
		t.Fatal(h, e)
	}
	return !slices.ContainsFunc(cells, func(c api.Cell) bool {
		n, _ := gas.Fits(c, around)
		return n != api.CellFits
	})
}

// Tops is the greatest height of all that are tried one after the other; and P5.9: up to it no cell may burst.
func TestP5_9Tops(t *testing.T) {
	r := rand.New(rand.NewSource(51))
	none, between := 0, 0
	for range 300 {
		k, s := someSky(r), someShip(r)
		first, last := lowest(k), highest(k)
		s.Height = within(r, first, first+(last-first)/3)
		want := s.Height.Lo - 1000
		for h := s.Height.Hi; h <= last; h++ {
			if fitsUpTo(t, k, s.Gas.Cells, span(s.Height.Lo, h)) {
				want = h
			}
		}
		top, e := flight.Tops(k, s)
		if want < s.Height.Lo {
			none++
			if top != 0 || e != api.ErrNone {
				t.Error(k, s, top, e)
			}
			continue
		}
		if want < last {
			between++
		}
		if top != want || e != api.OK {
			t.Error(k, s, top, e, "want", want)
		}
	}
	if none < 10 || between < 10 {
		t.Error("hardly tried:", none, between)
	}
}

// P5.9: after what Vent tells all cells fit, and with one unit less of an act that cell does not.
func TestP5_9Vent(t *testing.T) {
	r := rand.New(rand.NewSource(52))
	valved := 0
	for range 2000 {
		k, s := someSky(r), someShip(r)
		for i := range s.Gas.Cells {
			s.Gas.Cells[i].Room -= r.Intn(50)
		}
		h := within(r, lowest(k), highest(k))
		acts, e := flight.Vent(k, s, h)
		if e != api.OK {
			t.Fatal(k, s, h, e)
		}
		p, _, e := gas.Play(s.Gas, acts)
		if e != api.OK || !fitsUpTo(t, k, p.Cells, h) {
			t.Error(k, s, h, acts, e)
		}
		for i, a := range acts {
			valved++
			less := slices.Clone(acts)
			if a.N == 1 {
				less = slices.Delete(less, i, i+1)
			} else {
				less[i].N--
			}
			p, _, e := gas.Play(s.Gas, less)
			if e != api.OK || a.Kind != api.GasValve || fitsUpTo(t, k, p.Cells[a.Cell:a.Cell+1], h) {
				t.Error(k, s, h, less, e)
			}
		}
	}
	if valved < 300 {
		t.Error("hardly tried:", valved)
	}
}
