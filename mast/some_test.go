package mast_test

import (
	"math/rand"

	"ballonet/api"
	"ballonet/mast"
)

// What tests use to tell axes, winds, ports and tables, and to make up some of them: small ones, so that much is equal, and much is just at a limit.

func span(lo, hi int) api.Span { return api.Span{Lo: lo, Hi: hi} }

func only(n int) api.Span { return span(n, n) }

func axis(x, y int) api.Axis { return api.Axis{X: x, Y: y} }

func wind(x, y api.Span) api.Wind { return api.Wind{X: x, Y: y} }

func act(kind uint8, n int) api.MastAct { return api.MastAct{Kind: kind, N: n} }

func in(w api.Wind, kind uint8, n int) api.MastStep { return api.MastStep{Act: act(kind, n), Wind: w} }

// breeze is the wind of the chapter's examples.
func breeze() api.Wind { return wind(span(0, 30), only(40)) }

// threeAxes are the axes of the chapter's examples. In its wind the crosswinds to them go up to 40, to 24 and to 30.
func threeAxes() []api.Axis { return []api.Axis{axis(1, 0), axis(3, 4), axis(0, 1)} }

func threePulls() []api.Span { return []api.Span{span(0, 300), span(100, 500), only(0)} }

// port is the port of the chapter's examples: its need is 8.
func port() api.Port {
	return api.Port{Axes: threeAxes(), People: 12, Most: 100, Pulls: threePulls(), Cross: 25}
}

// smallPort has few berths: its need is 2.
func smallPort() api.Port {
	return api.Port{Axes: threeAxes(), People: 4, Most: 5, Pulls: []api.Span{span(0, 7)}, Cross: 25}
}

// allBerths returns all valid berths of a port, in all of their fields.
func allBerths(p api.Port) []api.Berth {
	var l []api.Berth
	for i := range 6 * 4 * len(p.Axes) * (p.People + 1) {
		b := api.Berth{Ship: uint8(i % 6), Wire: i/6%2 == 1, Open: i/12%2 == 1, Axis: i / 24 % len(p.Axes), Held: i / 24 / len(p.Axes)}
		if mast.CheckBerth(p, b) == api.OK {
			l = append(l, b)
		}
	}
	return l
}

// allActs returns acts of all kinds, and of two that are none, with all numbers that may do something at a port, and some that do not.
func allActs(p api.Port) []api.MastAct {
	var l []api.MastAct
	for kind := range uint8(api.MastMoor + 2) {
		for n := -1; n <= max(p.People, len(p.Axes))+1; n++ {
			l = append(l, act(kind, n))
		}
	}
	return l
}

func within(r *rand.Rand, least, most int) api.Span {
	a, b := least+r.Intn(most-least+1), least+r.Intn(most-least+1)
	return span(min(a, b), max(a, b))
}

func someWind(r *rand.Rand, most int) api.Wind {
	w := wind(within(r, -most, most), within(r, -most, most))
	if r.Intn(3) == 0 {
		w.X.Lo = w.X.Hi
	}
	if r.Intn(3) == 0 {
		w.Y.Lo = w.Y.Hi
	}
	return w
}

func someAxis(r *rand.Rand, most int) api.Axis {
	for {
		a := axis(r.Intn(2*most+1)-most, r.Intn(2*most+1)-most)
		if mast.CheckAxis(a) == api.OK {
			return a
		}
	}
}

func someAxes(r *rand.Rand, most int) []api.Axis {
	l := make([]api.Axis, 1+r.Intn(most))
	for i := range l {
		l[i] = someAxis(r, 4)
	}
	return l
}

func somePulls(r *rand.Rand, ropes, most int) []api.Span {
	l := make([]api.Span, r.Intn(ropes+1))
	for i := range l {
		if r.Intn(4) > 0 {
			l[i] = within(r, 0, most)
		}
	}
	return l
}

func somePort(r *rand.Rand) api.Port {
	return api.Port{Axes: someAxes(r, 4), People: r.Intn(6), Most: 1 + r.Intn(9), Pulls: somePulls(r, 3, 12), Cross: r.Intn(30)}
}

func someBerth(r *rand.Rand, p api.Port) api.Berth {
	l := allBerths(p)
	return l[r.Intn(len(l))]
}

func someAct(r *rand.Rand, p api.Port) api.MastAct {
	return act(uint8(1+r.Intn(api.MastMoor)), r.Intn(max(p.People, len(p.Axes))+1))
}

func cond(l ...api.Span) api.Row { return api.Row{Conds: l} }

// someTable returns a table whose rows are often next to each other, and beyond the variables.
func someTable(r *rand.Rand) api.Decisions {
	d := api.Decisions{Vars: make([]api.Span, 1+r.Intn(api.MaxVars))}
	for i := range d.Vars {
		d.Vars[i] = within(r, -4, 4)
	}
	d.Rows = make([]api.Row, r.Intn(7))
	for i := range d.Rows {
		d.Rows[i] = api.Row{Conds: make([]api.Span, len(d.Vars)), Action: r.Intn(100)}
		for k := range d.Rows[i].Conds {
			d.Rows[i].Conds[k] = within(r, -5, 5)
			if r.Intn(2) == 0 {
				d.Rows[i].Conds[k] = span(-5, 5)
			}
		}
	}
	return d
}

// splitTable returns a table in which each state has one decision, as its variables' values are cut in two again and again.
func splitTable(r *rand.Rand) api.Decisions {
	d := api.Decisions{Vars: make([]api.Span, 1+r.Intn(api.MaxVars))}
	for i := range d.Vars {
		d.Vars[i] = within(r, -4, 4)
	}
	d.Rows = []api.Row{cond(append([]api.Span{}, d.Vars...)...)}
	for range r.Intn(10) {
		row, i := d.Rows[r.Intn(len(d.Rows))], r.Intn(len(d.Vars))
		at := row.Conds[i]
		if at.Lo < at.Hi {
			cut := at.Lo + r.Intn(at.Hi-at.Lo)
			other := cond(append([]api.Span{}, row.Conds...)...)
			row.Conds[i], other.Conds[i] = span(at.Lo, cut), span(cut+1, at.Hi)
			d.Rows = append(d.Rows, other)
		}
	}
	r.Shuffle(len(d.Rows), func(i, k int) { d.Rows[i], d.Rows[k] = d.Rows[k], d.Rows[i] })
	return d
}

// states returns all states of a table, in order.
func states(d api.Decisions) [][]int {
	l := [][]int{nil}
	for _, v := range d.Vars {
		var longer [][]int
		for _, s := range l {
			for n := v.Lo; n <= v.Hi; n++ {
				longer = append(longer, append(s[:len(s):len(s)], n))
			}
		}
		l = longer
	}
	return l
}

// matches returns the rows that match a state.
func matches(d api.Decisions, state []int) []int {
	var l []int
	for i, row := range d.Rows {
		is := true
		for k, c := range row.Conds {
			is = is && c.Lo <= state[k] && state[k] <= c.Hi
		}
		if is {
			l = append(l, i)
		}
	}
	return l
}
