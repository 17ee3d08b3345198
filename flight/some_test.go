package flight_test

import (
	"math"
	"math/rand"

	"ballonet/api"
	"ballonet/bound"
	"ballonet/flight"
)

// Skies, rigs, ships and legs for tests that try many: of such sizes that most flights go well for some minutes, and each event comes now and then.

// among returns a number from least to most.
func among(r *rand.Rand, least, most int) int { return least + r.Intn(most-least+1) }

// within returns a span from least to most.
func within(r *rand.Rand, least, most int) api.Span {
	a, b := among(r, least, most), among(r, least, most)
	return span(min(a, b), max(a, b))
}

// about returns a span that holds a number, and goes up to by beyond it.
func about(r *rand.Rand, n, by int) api.Span { return span(n-r.Intn(by+1), n+r.Intn(by+1)) }

func lowest(k api.Sky) int { return k.Sounding[0].Height }

func highest(k api.Sky) int { return k.Sounding[len(k.Sounding)-1].Height }

func someSky(r *rand.Rand) api.Sky {
	for {
		k := api.Sky{Winds: someWinds(r)}
		height, press, temp := among(r, -300, 100), float64(among(r, 9500, 10800)), among(r, 2500, 3100)
		for range among(r, 2, 5) {
			k.Sounding = append(k.Sounding, api.Level{Height: height, Press: about(r, int(press), 15), Temp: about(r, temp, 12)})
			rise := among(r, 300, 900)
			press *= math.Exp(-0.341632 * float64(rise) / float64(temp))
			height += rise
			temp += among(r, -40, 15)
		}
		if flight.CheckSky(k) == api.OK {
			return k
		}
	}
}

func someWinds(r *rand.Rand) []api.Gale {
	var l []api.Gale
	height := among(r, -400, 300)
	for range among(r, 1, 4) {
		l = append(l, api.Gale{Height: height, Wind: wind(within(r, -200, 200), within(r, -200, 200)), Gust: r.Intn(60)})
		height += among(r, 1, 500)
	}
	return l
}

func someRegion(r *rand.Rand) []api.Corner {
	points := box(among(r, 100, 500), among(r, 500, 3000))
	for range r.Intn(5) {
		points = append(points, api.Corner{X: among(r, -100, 600), Y: among(r, -4000, 4000)})
	}
	region, _ := bound.Hull(points)
	return region
}

// someRig returns a rig for a sky.
func someRig(r *rand.Rand, k api.Sky) api.Rig {
	rig := api.Rig{
		Region: someRegion(r), Regain: within(r, 0, 120), Tank: among(r, 0, 120), Reserve: among(r, 0, 600),
		Floor: lowest(k) + r.Intn(80), Roof: highest(k) - r.Intn(80),
	}
	return rig
}

func someCell(r *rand.Rand) api.Cell {
	helium := among(r, 0, 270)
	return api.Cell{
		Room: among(r, 70, 115), Helium: helium, Air: r.Intn(30), Warm: about(r, among(r, -10, 20), 8),
		Leak: r.Intn(2) * r.Intn(20000), Owed: r.Intn(1000000),
	}
}

// someShip returns a ship that is about as heavy as its lift.
func someShip(r *rand.Rand) api.Ship {
	s := api.Ship{
		X: within(r, -900, 900), Y: within(r, -900, 900), Height: about(r, among(r, 200, 400), 20),
		Fuel: about(r, among(r, 500, 1500), 100), Water: within(r, 0, 150), Burnt: within(r, 0, 500),
		Ballast: r.Intn(900), Dropped: r.Intn(100),
	}
	lift := 0
	for range r.Intn(4) {
		c := someCell(r)
		s.Gas.Cells = append(s.Gas.Cells, c)
		lift += 25 * c.Helium
	}
	s.Gas.Bottles, s.Gas.Valved.Helium, s.Gas.Leaked.Air = r.Intn(9), r.Intn(9), r.Intn(9)
	s.Gas = balanced(s.Gas)
	s.Dry = max(lift-s.Ballast-s.Fuel.Lo-s.Water.Lo+among(r, -400, 400), 0)
	return s
}

func someAct(r *rand.Rand, cells int) api.GasAct {
	if r.Intn(2) == 0 {
		return act(api.GasValve, r.Intn(cells), 0, among(r, 1, 20))
	}
	return act(api.GasMove, r.Intn(cells), r.Intn(cells), among(r, 1, 20))
}

func someLeg(r *rand.Rand, s api.Ship) api.Leg {
	l := api.Leg{
		Minutes: among(r, 1, 5), Air: wind(about(r, among(r, -150, 150), 9), about(r, among(r, -150, 150), 9)),
		Up: about(r, among(r, -40, 50), 6), Burn: within(r, 0, 30),
	}
	if r.Intn(3) == 0 {
		l.Drop = r.Intn(s.Ballast/2 + 1)
	}
	if len(s.Gas.Cells) > 0 && r.Intn(3) == 0 {
		for range among(r, 1, 3) {
			l.Acts = append(l.Acts, someAct(r, len(s.Gas.Cells)))
		}
	}
	return l
}

func someLegs(r *rand.Rand, s api.Ship) []api.Leg {
	var l []api.Leg
	for range r.Intn(4) {
		l = append(l, someLeg(r, s))
	}
	return l
}

func someAsked(r *rand.Rand) asked {
	k, s := someSky(r), someShip(r)
	rig := someRig(r, k)
	// Most ships begin below the middle, as most climb, and some burst further up.
	part := among(r, 3, 60)
	if r.Intn(6) == 0 {
		part = 97
	}
	s.Height = about(r, rig.Floor+(rig.Roof-rig.Floor)*part/100, 15)
	return asked{k, rig, s, someLegs(r, s)}
}
