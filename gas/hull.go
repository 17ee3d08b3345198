package gas

import "ballonet/api"

// CheckHull returns ErrHull unless a hull is valid (P3.4).
func CheckHull(h api.Hull) api.Errno {
	if !inOrder(1, h.Room, api.MaxRoom) || !isAmount(h.Gas) || !inOrder(0, h.Ballonet, h.Bag, api.MaxAmount) ||
		!isWarm(h.Warm) || !inOrder(0, h.Least, h.Most, api.MaxOver) {
		return api.ErrHull
	}
	return api.OK
}

// checkHullIn returns CheckHull's error, and then CheckAir's.
func checkHullIn(h api.Hull, a api.Air) api.Errno {
	if e := CheckHull(h); e != api.OK {
		return e
	}
	return CheckAir(a)
}

// overpressures returns the least span of a hull's overpressures.
func overpressures(h api.Hull, a api.Air) api.Span {
	of := func(m moment) ratio {
		return ratio{h.Gas*m.gasTemp() + h.Ballonet*m.temp - m.press*h.Room, h.Room}
	}
	return outwards(reach(of, a, h.Warm))
}

// Over returns the least span of a hull's overpressures (P3.4).
func Over(h api.Hull, a api.Air) (api.Span, api.Errno) {
	if e := checkHullIn(h, a); e != api.OK {
		return api.Span{}, e
	}
	return overpressures(h, a), api.OK
}

// Holds reports whether a hull holds (P3.4).
func Holds(h api.Hull, a api.Air) (bool, api.Errno) {
	if e := checkHullIn(h, a); e != api.OK {
		return false, e
	}
	// As the limits are whole, they are kept exactly if the rounded overpressures keep them.
	o := overpressures(h, a)
	return inOrder(h.Least, o.Lo, o.Hi, h.Most), api.OK
}

// Blow returns with which amounts in its ballonet a hull holds (P3.4).
func Blow(h api.Hull, a api.Air) (api.Span, api.Errno) {
	if e := checkHullIn(h, a); e != api.OK {
		return api.Span{}, e
	}
	s := blow(h, a)
	if isNone(s) {
		return api.Span{}, api.ErrNone
	}
	return s, api.OK
}

// blow returns with which amounts in its ballonet a hull holds, which may be none.
func blow(h api.Hull, a api.Air) api.Span {
	// Each moment asks for an amount for an overpressure: no less than the most of those for the least one will do, and no more than the least of those for the greatest one.
	amountFor := func(overpressure int) func(m moment) ratio {
		return func(m moment) ratio {
			return ratio{(m.press+overpressure)*h.Room - h.Gas*m.gasTemp(), m.temp}
		}
	}
	_, enough := reach(amountFor(h.Least), a, h.Warm)
	most, _ := reach(amountFor(h.Most), a, h.Warm)
	held := inwards(enough, most)
	return api.Span{Lo: max(held.Lo, 0), Hi: min(held.Hi, h.Bag)}
}

// Roof returns the least pressure of the air in which some amount in its ballonet keeps a hull (P3.4).
func Roof(h api.Hull, temp api.Span) (int, api.Errno) {
	if e := CheckHull(h); e != api.OK {
		return 0, e
	}
	if !isTemp(temp) {
		return 0, api.ErrArg
	}
	// With whole amounts a hull may hold at a pressure, not at the next one, and again later: so they are tried one after the other.
	for p := api.MinPress; p <= api.MaxPress; p++ {
		a := api.Air{Press: api.Span{Lo: p, Hi: p}, Temp: temp}
		if !isNone(blow(h, a)) {
			return p, api.OK
		}
	}
	return 0, api.ErrNone
}
