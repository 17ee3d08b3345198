package air

import (
	"ballonet/api"
	"ballonet/bound"
)

// CheckWinds returns ErrWind unless winds are valid (P2.3).
func CheckWinds(l []api.Gale) api.Errno {
	if len(l) < 1 || len(l) > api.MaxLevels {
		return api.ErrWind
	}
	for i, g := range l {
		if !inOrder(api.MinHeight, g.Height, api.MaxHeight) || !inOrder(0, g.Gust, api.MaxGust) || !isWind(g.Wind, api.MaxWind) {
			return api.ErrWind
		}
		if i > 0 && g.Height <= l[i-1].Height {
			return api.ErrWind
		}
	}
	return api.OK
}

// isWind reports whether both parts of a wind are spans with ends from -most to most.
func isWind(w api.Wind, most int) bool {
	return inOrder(-most, w.X.Lo, w.X.Hi, most) && inOrder(-most, w.Y.Lo, w.Y.Hi, most)
}

// WindAt returns the wind between two heights (P2.3).
func WindAt(l []api.Gale, h api.Span) (api.Wind, api.Errno) {
	if e := CheckWinds(l); e != api.OK {
		return api.Wind{}, e
	}
	if e := bound.Check(h); e != api.OK {
		return api.Wind{}, e
	}
	gust := gustBetween(l, h)
	return api.Wind{
		X: longer(steady(l, h, func(w api.Wind) api.Span { return w.X }), gust),
		Y: longer(steady(l, h, func(w api.Wind) api.Span { return w.Y }), gust),
	}, api.OK
}

// longer returns a span that is longer at each end.
func longer(s api.Span, by int) api.Span { return api.Span{Lo: s.Lo - by, Hi: s.Hi + by} }

// steady returns the least span of all steady winds between two heights, of the part that is asked for.
func steady(l []api.Gale, h api.Span, part func(w api.Wind) api.Span) api.Span {
	// A knot below the first gale and one above the last gale, with the same winds, make the steady winds out there a part of the table: it is the same at all heights further out.
	const under, over = api.MinHeight - 1, api.MaxHeight + 1
	first, last := l[0], l[len(l)-1]
	t := []api.Knot{{At: under, Val: part(first.Wind)}}
	for _, g := range l {
		t = append(t, api.Knot{At: g.Height, Val: part(g.Wind)})
	}
	t = append(t, api.Knot{At: over, Val: part(last.Wind)})
	s, _ := bound.Value(t, api.Span{Lo: min(max(h.Lo, under), over), Hi: min(max(h.Hi, under), over)})
	return s
}

// gustBetween returns the gust between two heights.
func gustBetween(l []api.Gale, h api.Span) int {
	below, between, above := 0, 0, 0
	for _, g := range l {
		if g.Height > h.Hi {
			above = g.Gust
			break
		}
		if g.Height < h.Lo {
			below = g.Gust
		} else {
			between = max(between, g.Gust)
		}
	}
	return max(below, between, above)
}

// checkWind returns bound.Check's error for the parts of a wind, and then ErrArg unless they are such as WindAt may return.
func checkWind(w api.Wind) api.Errno {
	for _, s := range []api.Span{w.X, w.Y} {
		if e := bound.Check(s); e != api.OK {
			return e
		}
	}
	if !isWind(w, 2*api.MaxWind) {
		return api.ErrArg
	}
	return api.OK
}

// Speed returns the least span of the speeds of a wind (P2.4).
func Speed(w api.Wind) (api.Span, api.Errno) {
	if e := checkWind(w); e != api.OK {
		return api.Span{}, e
	}
	squares, _ := bound.Add(square(w.X), square(w.Y))
	return bound.Root(squares)
}

// square returns the least span of all squares of a span.
func square(s api.Span) api.Span {
	// The least product is below 0 only if 0 is in the span, and is the least square then.
	products, _ := bound.Mul(s, s)
	return api.Span{Lo: max(products.Lo, 0), Hi: products.Hi}
}

// Along returns how fast a wind blows along a way (P2.4).
func Along(w api.Wind, dx, dy int) (api.Span, api.Errno) {
	if e := checkWind(w); e != api.OK {
		return api.Span{}, e
	}
	if !inOrder(-api.MaxWay, dx, api.MaxWay) || !inOrder(-api.MaxWay, dy, api.MaxWay) || dx == 0 && dy == 0 {
		return api.Span{}, api.ErrArg
	}
	east, _ := bound.Mul(w.X, only(dx))
	north, _ := bound.Mul(w.Y, only(dy))
	both, _ := bound.Add(east, north)
	way := dx*dx + dy*dy
	return api.Span{Lo: perRoot(both.Lo, way).Lo, Hi: perRoot(both.Hi, way).Hi}, api.OK
}

// perRoot returns n divided by the square root of q, rounded down and rounded up.
func perRoot(n, q int) api.Span {
	// A whole root's square is whole: so it is at most n * n / q if it is at most that rounded down, and at least if at least that rounded up.
	square, _ := bound.Over(only(n), only(n), only(q))
	s, _ := bound.Root(square)
	if n < 0 {
		return api.Span{Lo: -s.Hi, Hi: -s.Lo}
	}
	return s
}
