package flight_test

import (
	"math"
	"math/big"
	"math/rand"
	"testing"

	"ballonet/air"
	"ballonet/api"
	"ballonet/gas"
)

// What is true is told in fractions, so that nothing is rounded.

func rat(n int) *big.Rat { return new(big.Rat).SetInt64(int64(n)) }

func add(a, b *big.Rat) *big.Rat { return new(big.Rat).Add(a, b) }

func sub(a, b *big.Rat) *big.Rat { return new(big.Rat).Sub(a, b) }

func mul(a, b *big.Rat) *big.Rat { return new(big.Rat).Mul(a, b) }

func over(a, b *big.Rat) *big.Rat { return new(big.Rat).Quo(a, b) }

// between returns a number from a to b, often one of these.
func between(r *rand.Rand, a, b *big.Rat) *big.Rat {
	part := big.NewRat(int64(r.Intn(8)), 7)
	return add(a, mul(sub(b, a), part))
}

// oneOf returns a number of a span.
func oneOf(r *rand.Rand, s api.Span) *big.Rat { return between(r, rat(s.Lo), rat(s.Hi)) }

func isIn(s api.Span, x *big.Rat) bool { return x.Cmp(rat(s.Lo)) >= 0 && x.Cmp(rat(s.Hi)) <= 0 }

// line returns the value at a height of the line from a value at a height to one at another height.
func line(h *big.Rat, fromHeight, from, toHeight, to int) *big.Rat {
	part := over(sub(h, rat(fromHeight)), rat(toHeight-fromHeight))
	return add(rat(from), mul(part, rat(to-from)))
}

// blows returns a wind, with a gust, as there may be at a height, in a part.
func blows(r *rand.Rand, l []api.Gale, h *big.Rat, part func(w api.Wind) api.Span) *big.Rat {
	low, high, gust := rat(0), rat(0), 0
	for i, g := range l {
		w := part(g.Wind)
		switch h.Cmp(rat(g.Height)) {
		case 1:
			low, high, gust = rat(w.Lo), rat(w.Hi), g.Gust
		case 0:
			low, high, gust = rat(w.Lo), rat(w.Hi), max(gust, g.Gust)
		case -1:
			if i == 0 {
				low, high = rat(w.Lo), rat(w.Hi)
			} else if before := l[i-1]; h.Cmp(rat(before.Height)) > 0 {
				v := part(before.Wind)
				low = line(h, before.Height, v.Lo, g.Height, w.Lo)
				high = line(h, before.Height, v.Hi, g.Height, w.Hi)
			}
			gust = max(gust, g.Gust)
			return add(between(r, low, high), oneOf(r, span(-gust, gust)))
		}
	}
	return add(between(r, low, high), oneOf(r, span(-gust, gust)))
}

// real is what is true of a ship.
type real struct{ x, y, height, fuel, water, burnt *big.Rat }

func realOf(r *rand.Rand, s api.Ship) real {
	return real{oneOf(r, s.X), oneOf(r, s.Y), oneOf(r, s.Height), oneOf(r, s.Fuel), oneOf(r, s.Water), oneOf(r, s.Burnt)}
}

func (a real) isIn(s api.Ship) bool {
	return isIn(s.X, a.x) && isIn(s.Y, a.y) && isIn(s.Height, a.height) && isIn(s.Fuel, a.fuel) && isIn(s.Water, a.water) && isIn(s.Burnt, a.burnt)
}

func least(a, b *big.Rat) *big.Rat {
	if a.Cmp(b) < 0 {
		return a
	}
	return b
}

// lives returns what becomes of a ship in a minute in which everything is as a sky, a rig and a leg allow.
func (a real) lives(r *rand.Rand, k api.Sky, rig api.Rig, l api.Leg) real {
	b := a
	b.height = add(a.height, oneOf(r, l.Up))
	burnt := oneOf(r, l.Burn)
	b.fuel, b.burnt = sub(a.fuel, burnt), add(a.burnt, burnt)
	gain := mul(burnt, over(oneOf(r, rig.Regain), rat(100)))
	b.water = least(add(a.water, gain), rat(rig.Tank))
	// Half of the minute at one height, with one wind, and half of it at another one.
	for range 2 {
		h := between(r, a.height, b.height)
		x := add(oneOf(r, l.Air.X), blows(r, k.Winds, h, func(w api.Wind) api.Span { return w.X }))
		y := add(oneOf(r, l.Air.Y), blows(r, k.Winds, h, func(w api.Wind) api.Span { return w.Y }))
		b.x, b.y = add(b.x, mul(x, rat(3))), add(b.y, mul(y, rat(3)))
	}
	return b
}

// P5.6, P5.7 and N5: what is true of a ship is in what Fly returns, and keeps the limits of a flight that has no event.
func TestP5_6Truth(t *testing.T) {
	r := rand.New(rand.NewSource(57))
	tried := 0
	for range 1500 {
		a := someAsked(r)
		l, _, e := a.fly()
		if e != api.OK {
			continue
		}
		for range 3 {
			is, i := realOf(r, a.s), 0
			for _, leg := range a.legs {
				for range leg.Minutes {
					next := is.lives(r, a.k, a.r, leg)
					if !next.isIn(l[i]) {
						t.Fatal(a, i, next, l[i])
					}
					tried++
					keeps(t, r, a, leg, is, next, l[i])
					is, i = next, i+1
				}
			}
		}
	}
	if tried < 5000 {
		t.Error("hardly tried:", tried)
	}
}

// wholes returns the least span that holds a number.
func wholes(x *big.Rat) api.Span {
	f := new(big.Int).Div(x.Num(), x.Denom())
	low := int(f.Int64())
	if x.IsInt() {
		return only(low)
	}
	return span(low, low+1)
}

// keeps checks P5.7 at some moment of a minute: a flight that is accepted keeps its limits, whatever the air and the superheats are.
func keeps(t *testing.T, r *rand.Rand, a asked, l api.Leg, before, after real, s api.Ship) {
	t.Helper()
	height := between(r, before.height, after.height)
	fuel := between(r, before.fuel, after.fuel)
	if !isIn(span(a.r.Floor, a.r.Roof), height) || fuel.Cmp(rat(a.r.Reserve)) < 0 {
		t.Fatal(a, height, fuel)
	}
	around, e := air.At(a.k.Sounding, wholes(height))
	if e != api.OK {
		t.Fatal(a, height, e)
	}
	press, temp := oneOf(r, around.Press), oneOf(r, around.Temp)
	heavy := add(add(rat(s.Dry+s.Ballast), fuel), between(r, before.water, after.water))
	for _, c := range s.Gas.Cells {
		warm, amount := oneOf(r, c.Warm), rat(c.Helium+c.Air)
		if volume := over(mul(amount, add(temp, warm)), press); volume.Cmp(rat(c.Room)) > 0 {
			t.Fatal(a, c, height, volume)
		}
		heavy = sub(heavy, add(rat(25*c.Helium), over(mul(mul(rat(29), amount), warm), temp)))
	}
	x, _ := oneOf(r, l.Air.X).Float64()
	y, _ := oneOf(r, l.Air.Y).Float64()
	h, _ := heavy.Float64()
	if !isInside(a.r.Region, math.Hypot(x, y), h) {
		t.Fatal(a, l, x, y, h)
	}
}

// isInside reports whether a region of three corners or more holds a point, or all but.
func isInside(region []api.Corner, x, y float64) bool {
	for i, q := range region {
		p := region[(i+len(region)-1)%len(region)]
		if float64(q.X-p.X)*(y-float64(p.Y))-float64(q.Y-p.Y)*(x-float64(p.X)) < -1e-3 {
			return false
		}
	}
	return true
}

// P5.8: ballast, fuel and gas are conserved, and no more water is there than was there and was gained.
func TestP5_8Conserved(t *testing.T) {
	r := rand.New(rand.NewSource(58))
	tried := 0
	for range 3000 {
		a := someAsked(r)
		l, _, e := a.fly()
		if e != api.OK {
			continue
		}
		before, i := a.s, 0
		for _, leg := range a.legs {
			begun := begins(t, before, leg)
			conserved(t, before, begun, leg)
			if begun.Dropped != before.Dropped+leg.Drop {
				t.Error(before, begun)
			}
			before = begun
			for range leg.Minutes {
				tried++
				s := l[i]
				conserved(t, before, s, leg)
				if s.Water.Lo > before.Water.Lo+hundredth(leg.Burn, a.r.Regain).Lo || s.Water.Hi > before.Water.Hi+hundredth(leg.Burn, a.r.Regain).Hi {
					t.Error(before, s)
				}
				if s.Dropped != before.Dropped || s.Dry != before.Dry || s.Gas.Valved != before.Gas.Valved {
					t.Error(before, s)
				}
				before, i = s, i+1
			}
		}
	}
	if tried < 3000 {
		t.Error("hardly tried:", tried)
	}
}

// conserved checks that nothing was lost, nor came in.
func conserved(t *testing.T, a, b api.Ship, l api.Leg) {
	t.Helper()
	sums := func(s api.Ship) [3]int {
		return [...]int{s.Ballast + s.Dropped, s.Fuel.Lo + s.Burnt.Hi, s.Fuel.Hi + s.Burnt.Lo}
	}
	if sums(a) != sums(b) || gas.Check(b.Gas) != api.OK || a.Gas.In != b.Gas.In || a.Gas.Bottles != b.Gas.Bottles || a.Gas.Purged != b.Gas.Purged {
		t.Error(a, l, b)
	}
}
