package gas

import (
	"iter"
	"slices"

	"ballonet/api"
)

// CheckHistory returns ErrHistory unless a history is valid (P3.5).
func CheckHistory(h api.History) api.Errno {
	if !inOrder(1, len(h.Warm), api.MaxCells) || !inOrder(1, len(h.Gauges), api.MaxGauges) || len(h.Flows) > api.MaxFlows {
		return api.ErrHistory
	}
	for _, w := range h.Warm {
		if !isWarm(w) {
			return api.ErrHistory
		}
	}
	last := -1
	for _, g := range h.Gauges {
		if g.Time <= last || !isGauge(g, len(h.Warm)) {
			return api.ErrHistory
		}
		last = g.Time
	}
	for _, f := range h.Flows {
		if !isTime(f.Time) || !inOrder(0, f.Cell, len(h.Warm)-1) || !inOrder(-api.MaxAmount, f.N, api.MaxAmount) {
			return api.ErrHistory
		}
	}
	return api.OK
}

func isTime(t int) bool { return inOrder(0, t, api.MaxTime) }

// isGauge reports whether a gauge of so many cells is valid by itself.
func isGauge(g api.Gauge, cells int) bool {
	return isTime(g.Time) && CheckAir(g.Air) == api.OK && len(g.Volumes) == cells &&
		!slices.ContainsFunc(g.Volumes, func(v api.Span) bool { return !inOrder(0, v.Lo, v.Hi, api.MaxRoom) })
}

// Amounts returns which amounts of a cell a gauge allows (P3.5).
func Amounts(h api.History, gauge, cell int) (api.Span, api.Errno) {
	if e := CheckHistory(h); e != api.OK {
		return api.Span{}, e
	}
	if !inOrder(0, gauge, len(h.Gauges)-1) || !inOrder(0, cell, len(h.Warm)-1) {
		return api.Span{}, api.ErrArg
	}
	s := allowed(h, gauge, cell)
	if isNone(s) {
		return api.Span{}, api.ErrNone
	}
	return s, api.OK
}

// allowed returns which amounts of a cell a gauge allows, which may be none.
func allowed(h api.History, gauge, cell int) api.Span {
	// What a volume needs moves without a gap between its extremes: so each amount between them has a volume that the gauge says, at some moment.
	g := h.Gauges[gauge]
	amountOf := func(volume int) func(m moment) ratio {
		return func(m moment) ratio { return ratio{volume * m.press, m.gasTemp()} }
	}
	least, _ := reach(amountOf(g.Volumes[cell].Lo), g.Air, h.Warm[cell])
	_, greatest := reach(amountOf(g.Volumes[cell].Hi), g.Air, h.Warm[cell])
	return inwards(least, greatest)
}

// gauges yields for each gauge the amounts of a cell that it allows, less what has flowed into the cell so far: so they stay the same from one gauge to the next if nothing leaks, and fall by what has leaked. (What flowed before the first gauge makes no difference, as it is in all of them.)
func gauges(h api.History, cell int) iter.Seq2[int, api.Span] {
	return func(yield func(gauge int, s api.Span) bool) {
		for i, g := range h.Gauges {
			s, in := allowed(h, i, cell), flowed(h, g.Time, cell)
			if !yield(i, api.Span{Lo: s.Lo - in, Hi: s.Hi - in}) {
				return
			}
		}
	}
}

// flowed returns how much has flowed into a cell up to a time.
func flowed(h api.History, time, cell int) int {
	in := 0
	for _, f := range h.Flows {
		if f.Cell == cell && f.Time <= time {
			in += f.N
		}
	}
	return in
}

// leaked returns how much has leaked from a cell, for all amounts that the history allows of it, and whether it allows any. Each whole number from the least to the greatest one can be.
func leaked(h api.History, cell int) (leak api.Span, can bool) {
	var first api.Span
	// How much there was at first, at least, and how much is left, at most.
	var needed, left int
	for i, s := range gauges(h, cell) {
		if i == 0 {
			first, needed, left = s, s.Lo, s.Hi
		}
		needed, left = max(needed, s.Lo), min(left, s.Hi)
		if left < s.Lo {
			return api.Span{}, false
		}
		if i > 0 {
			leak = api.Span{Lo: max(needed-left, 0), Hi: first.Hi - s.Lo}
		}
	}
	return leak, true
}

// Leaks returns how much has leaked from each cell, if so much has leaked from all of them (P3.6).
func Leaks(h api.History, total api.Span) ([]api.Span, api.Errno) {
	if e := CheckHistory(h); e != api.OK {
		return nil, e
	}
	if !inOrder(0, total.Lo, total.Hi, api.MaxBooks) {
		return nil, api.ErrArg
	}
	leaks := make([]api.Span, len(h.Warm))
	var all api.Span
	for cell := range leaks {
		s, can := leaked(h, cell)
		if !can {
			return nil, api.ErrNone
		}
		leaks[cell] = s
		all = api.Span{Lo: all.Lo + s.Lo, Hi: all.Hi + s.Hi}
	}
	if all.Hi < total.Lo || all.Lo > total.Hi {
		return nil, api.ErrNone
	}
	for cell, s := range leaks {
		others := api.Span{Lo: all.Lo - s.Lo, Hi: all.Hi - s.Hi}
		leaks[cell] = api.Span{Lo: max(s.Lo, total.Lo-others.Hi), Hi: min(s.Hi, total.Hi-others.Lo)}
	}
	return leaks, api.OK
}

// Named returns the cells that have leaked for certain, if so much has leaked from all of them (P3.6).
func Named(h api.History, total api.Span) ([]int, api.Errno) {
	leaks, e := Leaks(h, total)
	if e != api.OK {
		return nil, e
	}
	var cells []int
	for cell, s := range leaks {
		if s.Lo > 0 {
			cells = append(cells, cell)
		}
	}
	return cells, api.OK
}

// Conflict returns the first clash of a history (P3.7).
func Conflict(h api.History) (api.Clash, api.Errno) {
	if e := CheckHistory(h); e != api.OK {
		return api.Clash{}, e
	}
	for cell := range h.Warm {
		for to, later := range gauges(h, cell) {
			if isNone(later) {
				return api.Clash{Cell: cell, From: to, To: to}, api.OK
			}
			for from, before := range gauges(h, cell) {
				// All gauges before this one allow amounts, or the first of those that do not would have been a clash.
				if from < to && before.Hi < later.Lo {
					return api.Clash{Cell: cell, From: from, To: to}, api.OK
				}
			}
		}
	}
	return api.Clash{}, api.ErrNone
}
