package bound

import "ballonet/api"

// CheckTable returns ErrTable unless a table is valid (P1.3).
func CheckTable(t []api.Knot) api.Errno {
	if len(t) < 2 || len(t) > api.MaxKnots {
		return api.ErrTable
	}
	for i, k := range t {
		if beyond(k.At, api.MaxAt) || beyond(k.Val.Lo, api.MaxAt) || beyond(k.Val.Hi, api.MaxAt) || k.Val.Lo > k.Val.Hi {
			return api.ErrTable
		}
		if i > 0 && k.At <= t[i-1].At {
			return api.ErrTable
		}
	}
	return api.OK
}

// beyond reports whether a number is not from -most to most.
func beyond(n, most int) bool { return n < -most || n > most }

// checkBoth returns CheckTable's error for a table, and then Check's for a span.
func checkBoth(t []api.Knot, s api.Span) api.Errno {
	if e := CheckTable(t); e != api.OK {
		return e
	}
	return Check(s)
}

// Value returns the least span of a table's values (P1.3).
func Value(t []api.Knot, x api.Span) (api.Span, api.Errno) {
	if e := checkBoth(t, x); e != api.OK {
		return api.Span{}, e
	}
	if x.Lo < t[0].At || x.Hi > t[len(t)-1].At {
		return api.Span{}, api.ErrArg
	}
	// Any value of the table is within these, and so the extremes that follow replace them.
	v := api.Span{Lo: api.MaxAt, Hi: -api.MaxAt}
	for i, q := range t[1:] {
		p := t[i]
		from, to := max(x.Lo, p.At), min(x.Hi, q.At)
		if from > to {
			continue
		}
		// Between two knots, a line has its extremes at the ends.
		v.Lo = least(v.Lo, lower(p, q).down(from), lower(p, q).down(to))
		v.Hi = greatest(v.Hi, upper(p, q).up(from), upper(p, q).up(to))
	}
	return v, api.OK
}

// May returns where a table's value may be in a span (P1.3).
func May(t []api.Knot, y api.Span) ([]api.Span, api.Errno) {
	if e := checkBoth(t, y); e != api.OK {
		return nil, e
	}
	return where(t, func(p, q api.Knot) (low, high api.Span) {
		return lower(p, q).atMost(y.Hi), upper(p, q).atLeast(y.Lo)
	}), api.OK
}

// Must returns where a table's value must be in a span (P1.3).
func Must(t []api.Knot, y api.Span) ([]api.Span, api.Errno) {
	if e := checkBoth(t, y); e != api.OK {
		return nil, e
	}
	return where(t, func(p, q api.Knot) (low, high api.Span) {
		return lower(p, q).atLeast(y.Lo), upper(p, q).atMost(y.Hi)
	}), api.OK
}

// where returns the whole numbers of a table's range at which two conditions hold; between tells, for two knots that follow each other, where each of them does (Lo above Hi: nowhere).
func where(t []api.Knot, between func(p, q api.Knot) (low, high api.Span)) []api.Span {
	var all []api.Span
	collect := func(from, to int) {
		if from > to {
			return
		}
		if n := len(all); n > 0 && from <= all[n-1].Hi+1 {
			all[n-1].Hi = to
			return
		}
		all = append(all, api.Span{Lo: from, Hi: to})
	}
	for i, q := range t[1:] {
		a, b := between(t[i], q)
		collect(max(a.Lo, b.Lo), min(a.Hi, b.Hi))
	}
	return all
}

// line is a lower or upper line between two knots that follow each other: from a place with its value to the next one.
type line struct{ at, value, nextAt, nextValue int }

func lower(p, q api.Knot) line { return line{p.At, p.Val.Lo, q.At, q.Val.Lo} }

func upper(p, q api.Knot) line { return line{p.At, p.Val.Hi, q.At, q.Val.Hi} }

// down returns a line's value at x, rounded down.
func (l line) down(x int) int {
	// Both factors have at most 31 bits, as x is between the knots.
	return l.value + floor((l.nextValue-l.value)*(x-l.at), l.nextAt-l.at)
}

// up returns a line's value at x, rounded up.
func (l line) up(x int) int { return -l.turned().down(x) }

// turned returns a line with its values the other way round, above and below 0.
func (l line) turned() line { return line{l.at, -l.value, l.nextAt, -l.nextValue} }

// atMost returns from which to which whole number a line is at most y; Lo is above Hi if it is so nowhere.
func (l line) atMost(y int) api.Span {
	// No value is beyond MaxAt: so a y that is further away tells no more than one just beyond it, whose product with a distance fits an int.
	y = min(max(y, -api.MaxAt-1), api.MaxAt+1)
	rise, room := l.nextValue-l.value, (y-l.value)*(l.nextAt-l.at)
	here := api.Span{Lo: l.at, Hi: l.nextAt}
	if rise > 0 {
		here.Hi = min(here.Hi, l.at+floor(room, rise))
	} else if rise < 0 {
		here.Lo = max(here.Lo, l.at-floor(room, -rise))
	} else if room < 0 {
		here.Hi = l.at - 1
	}
	return here
}

// atLeast returns from which to which whole number a line is at least y, as atMost does.
func (l line) atLeast(y int) api.Span { return l.turned().atMost(-y) }

// floor returns n / d rounded down, for a d above 0.
func floor(n, d int) int {
	q := n / d
	if n%d < 0 {
		q--
	}
	return q
}
