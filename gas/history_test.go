package gas_test

import (
	"math/rand"
	"slices"
	"testing"

	"ballonet/api"
	"ballonet/gas"
)

func gauge(time int, volumes ...api.Span) api.Gauge {
	return api.Gauge{Time: time, Air: calm(), Volumes: volumes}
}

func flow(time, cell, n int) api.Flow { return api.Flow{Time: time, Cell: cell, N: n} }

// short is the history of the chapter's examples.
func short() api.History {
	return api.History{
		Warm:   []api.Span{only(0)},
		Gauges: []api.Gauge{gauge(0, span(289, 290)), gauge(10, span(285, 286))},
		Flows:  []api.Flow{flow(5, 0, -5)},
	}
}

// exact returns a history whose gauges tell the amounts of cells exactly, or from one to another one: for each gauge the spans of all cells, at the times 0, 10, 20 and so on.
func exact(flows []api.Flow, gauges ...[]api.Span) api.History {
	h := api.History{Flows: flows}
	for range gauges[0] {
		h.Warm = append(h.Warm, only(0))
	}
	for i, volumes := range gauges {
		// With a pressure like the temperature the volume is the amount.
		h.Gauges = append(h.Gauges, api.Gauge{Time: 10 * i, Air: air(only(2000), only(2000)), Volumes: volumes})
	}
	return h
}

// largestHistory has as many cells, gauges and flows as there may be, and the most of all of them.
func largestHistory() api.History {
	var h api.History
	for range api.MaxCells {
		h.Warm = append(h.Warm, span(-api.MaxWarm, api.MaxWarm))
	}
	for i := range api.MaxGauges {
		volumes := slices.Repeat([]api.Span{span(0, mostRoom)}, api.MaxCells)
		h.Gauges = append(h.Gauges, api.Gauge{Time: api.MaxTime - api.MaxGauges + 1 + i, Air: widest(), Volumes: volumes})
	}
	for i := range api.MaxFlows {
		h.Flows = append(h.Flows, flow(i*10101, i%api.MaxCells, mostAmount-2*mostAmount*(i%2)))
	}
	return h
}

func goodHistories() []api.History {
	good := []api.History{
		short(), largestHistory(), exact(nil, []api.Span{only(5)}), exact([]api.Flow{flow(0, 0, 0), flow(api.MaxTime, 0, 0)}, []api.Span{only(0)}),
	}
	for _, s := range inside(0, mostRoom) {
		h := short()
		h.Gauges[1].Volumes[0] = s
		good = append(good, h)
	}
	for _, a := range goodAirs() {
		h := short()
		h.Gauges[0].Air = a
		good = append(good, h)
	}
	for _, s := range inside(-api.MaxWarm, api.MaxWarm) {
		h := short()
		h.Warm[0] = s
		good = append(good, h)
	}
	return good
}

func badHistories() []api.History {
	bad := []api.History{{}, {Warm: []api.Span{only(0)}}, {Gauges: []api.Gauge{gauge(0)}}}
	change := func(f func(h *api.History)) {
		for _, h := range []api.History{short(), largestHistory()} {
			f(&h)
			bad = append(bad, h)
		}
	}
	change(func(h *api.History) { h.Warm = nil })
	change(func(h *api.History) { h.Gauges = nil })
	change(func(h *api.History) { h.Warm = make([]api.Span, api.MaxCells+1) })
	change(func(h *api.History) {
		h.Warm = append(h.Warm, only(0))
		for len(h.Warm) <= api.MaxCells {
			h.Warm = append(h.Warm, only(0))
		}
		for i := range h.Gauges {
			h.Gauges[i].Volumes = make([]api.Span, len(h.Warm))
		}
	})
	change(func(h *api.History) {
		for i := h.Gauges[0].Time + 1; len(h.Gauges) <= api.MaxGauges; i++ {
			h.Gauges = append(h.Gauges, h.Gauges[0])
		}
		for i := range h.Gauges {
			h.Gauges[i].Time = i
		}
	})
	change(func(h *api.History) { h.Flows = make([]api.Flow, api.MaxFlows+1) })
	change(func(h *api.History) { h.Gauges[1].Time = h.Gauges[0].Time })
	change(func(h *api.History) { h.Gauges[1].Time = h.Gauges[0].Time - 1 })
	change(func(h *api.History) { h.Gauges[0], h.Gauges[1] = h.Gauges[1], h.Gauges[0] })
	for _, n := range beyond(0, api.MaxTime) {
		change(func(h *api.History) { h.Gauges[0].Time = n })
		change(func(h *api.History) { h.Gauges[len(h.Gauges)-1].Time = n })
		change(func(h *api.History) { h.Flows[0].Time = n })
	}
	for _, a := range badAirs() {
		change(func(h *api.History) { h.Gauges[1].Air = a })
	}
	for _, s := range outside(0, mostRoom) {
		change(func(h *api.History) { h.Gauges[1].Volumes[0] = s })
	}
	for _, s := range outside(-api.MaxWarm, api.MaxWarm) {
		change(func(h *api.History) { h.Warm[len(h.Warm)-1] = s })
	}
	for _, n := range beyond(-mostAmount, mostAmount) {
		change(func(h *api.History) { h.Flows[len(h.Flows)-1].N = n })
	}
	change(func(h *api.History) { h.Gauges[0].Volumes = nil })
	change(func(h *api.History) { h.Gauges[1].Volumes = h.Gauges[1].Volumes[:len(h.Warm)-1] })
	change(func(h *api.History) { h.Gauges[1].Volumes = append(h.Gauges[1].Volumes, only(3)) })
	change(func(h *api.History) { h.Flows[0].Cell = len(h.Warm) })
	for _, n := range beyond(0, api.MaxCells-1) {
		change(func(h *api.History) { h.Flows[0].Cell = n })
	}
	return bad
}

func TestP3_5CheckHistory(t *testing.T) {
	for i, h := range goodHistories() {
		if e := gas.CheckHistory(h); e != api.OK {
			t.Error(i, e)
		}
	}
	for i, h := range badHistories() {
		if e := gas.CheckHistory(h); e != api.ErrHistory {
			t.Error(i, e)
		}
	}
}

// noLeaks checks that Leaks and Named return an error, and nothing beside it.
func noLeaks(t *testing.T, want api.Errno, h api.History, total api.Span) {
	t.Helper()
	if l, e := gas.Leaks(h, total); e != want || len(l) > 0 {
		t.Error("Leaks", total, l, e)
	}
	if l, e := gas.Named(h, total); e != want || len(l) > 0 {
		t.Error("Named", total, l, e)
	}
}

// R1 and R2: the error of the history comes first, and nothing is beside an error.
func TestP3_5Errors(t *testing.T) {
	for i, h := range badHistories() {
		for _, n := range []int{0, -1} {
			if s, e := gas.Amounts(h, n, n); e != api.ErrHistory || s != (api.Span{}) {
				t.Error(i, s, e)
			}
			noLeaks(t, api.ErrHistory, h, only(n))
		}
		if c, e := gas.Conflict(h); e != api.ErrHistory || c != (api.Clash{}) {
			t.Error(i, c, e)
		}
	}
	for i, h := range goodHistories() {
		for _, n := range beyond(0, len(h.Gauges)-1) {
			if s, e := gas.Amounts(h, n, 0); e != api.ErrArg || s != (api.Span{}) {
				t.Error(i, s, e)
			}
		}
		for _, n := range beyond(0, len(h.Warm)-1) {
			if s, e := gas.Amounts(h, 0, n); e != api.ErrArg || s != (api.Span{}) {
				t.Error(i, s, e)
			}
		}
		for _, total := range outside(0, api.MaxBooks) {
			noLeaks(t, api.ErrArg, h, total)
		}
	}
	// ErrArg comes before ErrNone.
	clash := exact(nil, []api.Span{only(5)}, []api.Span{only(6)})
	noLeaks(t, api.ErrArg, clash, span(-1, 5))
	noLeaks(t, api.ErrNone, clash, span(0, api.MaxBooks))
}

func TestP3_5Amounts(t *testing.T) {
	for i, x := range []struct {
		volume, warm api.Span
		a            api.Air
		want         api.Span
		e            api.Errno
	}{
		{span(289, 290), only(0), calm(), span(997, 1000), api.OK},
		{span(285, 286), only(0), calm(), span(983, 986), api.OK},
		{only(0), only(0), calm(), only(0), api.OK},
		{only(29), only(0), calm(), only(100), api.OK},
		// A unit is 2.9 of volume at 1000: 3 units are 8.7, 4 are 11.6.
		{span(8, 9), only(0), air(only(1000), only(2900)), only(3), api.OK},
		{only(9), only(0), air(only(1000), only(2900)), api.Span{}, api.ErrNone},
		{span(9, 11), only(0), air(only(1000), only(2900)), api.Span{}, api.ErrNone},
		{span(9, 12), only(0), air(only(1000), only(2900)), only(4), api.OK},
		{span(9, 9), span(0, 100), air(only(1000), only(2900)), only(3), api.OK},
		{span(9, 9), span(0, 99), air(only(1000), only(2900)), api.Span{}, api.ErrNone},
		{span(9, 9), only(0), air(only(1000), span(2900, 3000)), only(3), api.OK},
		{span(9, 9), only(0), air(span(966, 1000), only(2900)), api.Span{}, api.ErrHistory},
		{span(0, mostRoom), span(-300, 300), widest(), span(0, 100000000), api.OK},
		{only(mostRoom), span(-300, 300), widest(), span(2631579, 100000000), api.OK},
		{only(mostRoom), only(0), calm(), api.Span{}, api.ErrNone},
	} {
		h := exact(nil, []api.Span{x.volume})
		h.Warm[0], h.Gauges[0].Air = x.warm, x.a
		if s, e := gas.Amounts(h, 0, 0); s != x.want || e != x.e {
			t.Error(i, s, e)
		}
	}
	// Each gauge and each cell by itself.
	h := exact(nil, []api.Span{only(1), only(2)}, []api.Span{only(3), only(4)}, []api.Span{only(5), only(6)})
	for i := range 3 {
		for c := range 2 {
			if s, e := gas.Amounts(h, i, c); s != only(2*i+c+1) || e != api.OK {
				t.Error(i, c, s, e)
			}
		}
	}
	if s, e := gas.Amounts(short(), 1, 0); s != span(983, 986) || e != api.OK {
		t.Error(s, e)
	}
}

// allows reports whether an amount may have a volume that a gauge says: it may be the least one or less, and the greatest one or more.
func allows(g api.Gauge, warm, volume api.Span, n int) bool {
	small, large := false, false
	for _, p := range []int{g.Air.Press.Lo, g.Air.Press.Hi} {
		for _, t := range []int{g.Air.Temp.Lo, g.Air.Temp.Hi} {
			for _, w := range []int{warm.Lo, warm.Hi} {
				small = small || n*(t+w) <= volume.Hi*p
				large = large || n*(t+w) >= volume.Lo*p
			}
		}
	}
	return small && large
}

// Amounts tells all amounts that have, at some pressure, temperature and superheat, a volume that the gauge says, and no others.
func TestP3_5AmountsAll(t *testing.T) {
	r := rand.New(rand.NewSource(35))
	count := map[api.Errno]int{}
	for range 3000 {
		h := exact(nil, []api.Span{within(r, 0, 20)})
		h.Warm[0], h.Gauges[0].Air = within(r, -api.MaxWarm, api.MaxWarm), narrow(r)
		s, e := gas.Amounts(h, 0, 0)
		count[e]++
		if e != api.OK && (e != api.ErrNone || s != (api.Span{})) || s.Lo < 0 || s.Lo > s.Hi {
			t.Fatal(h, s, e)
		}
		for n := range 250 {
			want := allows(h.Gauges[0], h.Warm[0], h.Gauges[0].Volumes[0], n)
			if told := e == api.OK && s.Lo <= n && n <= s.Hi; told != want {
				t.Fatal(h, s, e, n)
			}
		}
	}
	if min(count[api.OK], count[api.ErrNone]) < 200 {
		t.Error("hardly any of a kind:", count)
	}
}

func TestP3_6Leaks(t *testing.T) {
	all := span(0, api.MaxBooks)
	two := exact([]api.Flow{flow(10, 0, 4), flow(20, 1, -3), flow(0, 0, 99), flow(21, 1, 99)},
		[]api.Span{span(10, 12), only(50)}, []api.Span{span(11, 14), span(44, 49)}, []api.Span{span(9, 13), span(38, 40)})
	for i, x := range []struct {
		h     api.History
		total api.Span
		want  []api.Span
		named []int
		e     api.Errno
	}{
		{short(), all, []api.Span{span(6, 12)}, []int{0}, api.OK},
		{short(), span(0, 8), []api.Span{span(6, 8)}, []int{0}, api.OK},
		{short(), span(9, 100), []api.Span{span(9, 12)}, []int{0}, api.OK},
		{short(), span(0, 6), []api.Span{only(6)}, []int{0}, api.OK},
		{short(), span(12, 12), []api.Span{only(12)}, []int{0}, api.OK},
		{short(), span(0, 5), nil, nil, api.ErrNone},
		{short(), span(13, api.MaxBooks), nil, nil, api.ErrNone},
		// The first cell is at first 10 to 12, and would be 7 to 10, and 5 to 9: so 1 to 7 have leaked. The other one is 50, 44 to 49, and 41 to 43.
		{two, all, []api.Span{span(1, 7), span(7, 9)}, []int{0, 1}, api.OK},
		{two, span(0, 8), []api.Span{only(1), only(7)}, []int{0, 1}, api.OK},
		{two, span(0, 10), []api.Span{span(1, 3), span(7, 9)}, []int{0, 1}, api.OK},
		{two, span(15, 20), []api.Span{span(6, 7), span(8, 9)}, []int{0, 1}, api.OK},
		{two, span(16, 16), []api.Span{only(7), only(9)}, []int{0, 1}, api.OK},
		{two, span(0, 7), nil, nil, api.ErrNone},
		{two, span(17, 18), nil, nil, api.ErrNone},
		// One gauge alone tells of no leak.
		{exact([]api.Flow{flow(0, 0, 5), flow(5, 0, 5)}, []api.Span{span(3, 9), only(2)}), all, make([]api.Span, 2), nil, api.OK},
		{exact(nil, []api.Span{span(3, 9), only(2)}), span(1, 5), nil, nil, api.ErrNone},
		// What leaked may have come from either cell; with 5 or more at least 2 from the second one.
		{exact(nil, []api.Span{span(4, 6), span(4, 6)}, []api.Span{span(3, 5), span(1, 4)}), span(0, 5), []api.Span{span(0, 3), span(0, 5)}, nil, api.OK},
		{exact(nil, []api.Span{span(4, 6), span(4, 6)}, []api.Span{span(3, 5), span(1, 4)}), span(5, 5), []api.Span{span(0, 3), span(2, 5)}, []int{1}, api.OK},
		{exact(nil, []api.Span{span(4, 6), span(4, 6)}, []api.Span{span(3, 5), span(1, 4)}), span(8, 9), []api.Span{only(3), only(5)}, []int{0, 1}, api.OK},
		// A gauge between tells what was there, and what was gone.
		{exact(nil, []api.Span{span(0, 9)}, []api.Span{only(7)}, []api.Span{only(4)}, []api.Span{span(0, 9)}), all, []api.Span{span(3, 9)}, []int{0}, api.OK},
		{exact(nil, []api.Span{span(0, 9)}, []api.Span{only(4)}, []api.Span{only(7)}, []api.Span{span(0, 9)}), all, nil, nil, api.ErrNone},
		// More flows out of a cell than it has, and back.
		{exact([]api.Flow{flow(5, 0, -6), flow(15, 0, 6)}, []api.Span{only(5)}, []api.Span{span(0, 5)}, []api.Span{only(5)}), all, nil, nil, api.ErrNone},
		{exact([]api.Flow{flow(5, 0, -5), flow(15, 0, 6)}, []api.Span{only(5)}, []api.Span{span(0, 5)}, []api.Span{only(5)}), all, []api.Span{only(1)}, []int{0}, api.OK},
		// A gauge that allows nothing, as there is no amount with this volume.
		{api.History{Warm: []api.Span{only(0)}, Gauges: []api.Gauge{gauge(0, only(mostRoom))}}, all, nil, nil, api.ErrNone},
	} {
		l, e := gas.Leaks(x.h, x.total)
		if !slices.Equal(l, x.want) || e != x.e {
			t.Error(i, l, e)
		}
		named, e := gas.Named(x.h, x.total)
		if !slices.Equal(named, x.named) || e != x.e {
			t.Error(i, "named", named, e)
		}
	}
}

// someHistory returns a history of a few units, with gauges that may be wrong.
func someHistory(r *rand.Rand) api.History {
	var h api.History
	for range 1 + r.Intn(3) {
		h.Warm = append(h.Warm, only(0))
	}
	most := 3 + r.Intn(4)
	left := slices.Repeat([]int{most - r.Intn(2)}, len(h.Warm))
	for i := range 1 + r.Intn(4) {
		g := api.Gauge{Time: 10*i + r.Intn(10), Air: air(only(2000), only(2000))}
		if r.Intn(8) == 0 {
			// Two units have a volume of 5.
			g.Air.Temp = only(2500)
			g.Air.Press = only(1000)
		}
		for c := range h.Warm {
			v := within(r, 0, 5)
			if r.Intn(4) > 0 {
				// What may be, as some of it leaks.
				left[c] = max(left[c]-r.Intn(3), 0)
				v = span(max(left[c]-r.Intn(3), 0), left[c]+r.Intn(2))
			}
			g.Volumes = append(g.Volumes, v)
		}
		h.Gauges = append(h.Gauges, g)
	}
	for range r.Intn(5) {
		h.Flows = append(h.Flows, flow(r.Intn(10*len(h.Gauges)+5), r.Intn(len(h.Warm)), r.Intn(7)-3))
	}
	return h
}

// amountsOf returns the amounts that a gauge without superheat, in air that is known exactly, allows.
func amountsOf(g api.Gauge, cell int) []int {
	var l []int
	for n := range 40 {
		if v := n * g.Air.Temp.Lo; v >= g.Volumes[cell].Lo*g.Air.Press.Lo && v <= g.Volumes[cell].Hi*g.Air.Press.Lo {
			l = append(l, n)
		}
	}
	return l
}

// flowsOf returns what flowed into a cell after a time, up to another one.
func flowsOf(h api.History, cell, from, to int) int {
	n := 0
	for _, f := range h.Flows {
		if f.Cell == cell && from < f.Time && f.Time <= to {
			n += f.N
		}
	}
	return n
}

// leaksOf returns what may have leaked from a cell: it tries all amounts, gauge by gauge, and adds up what is missing.
func leaksOf(h api.History, cell int) map[int]bool {
	type state struct{ left, leaked int }
	states := map[state]bool{}
	for _, n := range amountsOf(h.Gauges[0], cell) {
		states[state{n, 0}] = true
	}
	for i, g := range h.Gauges[1:] {
		in := flowsOf(h, cell, h.Gauges[i].Time, g.Time)
		next := map[state]bool{}
		for s := range states {
			for _, n := range amountsOf(g, cell) {
				if n <= s.left+in {
					next[state{n, s.leaked + s.left + in - n}] = true
				}
			}
		}
		states = next
	}
	leaks := map[int]bool{}
	for s := range states {
		leaks[s.leaked] = true
	}
	return leaks
}

// choices calls f with all ways to choose a leak of each cell.
func choices(leaks []map[int]bool, f func(l []int)) {
	var more func(l []int)
	more = func(l []int) {
		if len(l) == len(leaks) {
			f(l)
			return
		}
		for n := range leaks[len(l)] {
			more(append(slices.Clone(l), n))
		}
	}
	more(nil)
}

// What Leaks and Named tell is what all amounts that the history allows tell: each amount in a span can be, and no other; so a leak is in the cell that is named.
func TestP3_12Leaks(t *testing.T) {
	r := rand.New(rand.NewSource(312))
	count := map[api.Errno]int{}
	named := 0
	for range 6000 {
		h := someHistory(r)
		total := span(0, api.MaxBooks)
		if r.Intn(3) > 0 {
			total = within(r, 0, 12)
		}
		var leaks []map[int]bool
		for cell := range h.Warm {
			leaks = append(leaks, leaksOf(h, cell))
		}
		can := make([]map[int]bool, len(leaks))
		for i := range can {
			can[i] = map[int]bool{}
		}
		choices(leaks, func(l []int) {
			sum := 0
			for _, n := range l {
				sum += n
			}
			if sum < total.Lo || sum > total.Hi {
				return
			}
			for i, n := range l {
				can[i][n] = true
			}
		})
		told, e := gas.Leaks(h, total)
		count[e]++
		if len(can[0]) == 0 {
			noLeaks(t, api.ErrNone, h, total)
			continue
		}
		if e != api.OK || len(told) != len(can) {
			t.Fatal(h, total, told, e)
		}
		var want []int
		for i, s := range told {
			if len(can[i]) != s.Hi-s.Lo+1 || !can[i][s.Lo] || !can[i][s.Hi] {
				t.Fatal(h, total, told, can)
			}
			if !can[i][0] {
				want = append(want, i)
			}
		}
		l, e := gas.Named(h, total)
		if e != api.OK || !slices.Equal(l, want) {
			t.Fatal(h, total, l, e, want)
		}
		named += len(l)
	}
	if min(count[api.OK], count[api.ErrNone]) < 500 || named < 500 {
		t.Error("hardly any of a kind:", count, named)
	}
}

func TestP3_7Conflict(t *testing.T) {
	wrong := short()
	wrong.Gauges[1].Volumes[0] = span(292, 293)
	// The gauge 2 allows nothing of the cell 1: two units have a volume of 5, three of 7.5.
	odd := exact(nil, []api.Span{only(5), only(3)}, []api.Span{only(4), only(3)}, []api.Span{only(9), only(6)})
	odd.Gauges[2].Air = air(only(1000), only(2500))
	fallsAndRises := exact(nil, []api.Span{only(5)}, []api.Span{only(4)}, []api.Span{only(2)}, []api.Span{only(4)}, []api.Span{only(5)})
	for i, x := range []struct {
		h    api.History
		want api.Clash
		e    api.Errno
	}{
		{short(), api.Clash{}, api.ErrNone},
		{wrong, api.Clash{Cell: 0, From: 0, To: 1}, api.OK},
		{fallsAndRises, api.Clash{Cell: 0, From: 2, To: 3}, api.OK},
		{exact(nil, []api.Span{only(3)}, []api.Span{only(2)}, []api.Span{only(4)}), api.Clash{Cell: 0, From: 0, To: 2}, api.OK},
		{exact(nil, []api.Span{only(3), only(1)}, []api.Span{only(2), only(2)}, []api.Span{only(4), only(3)}), api.Clash{Cell: 0, From: 0, To: 2}, api.OK},
		{exact(nil, []api.Span{only(3), only(1)}, []api.Span{only(2), only(2)}, []api.Span{only(2), only(3)}), api.Clash{Cell: 1, From: 0, To: 1}, api.OK},
		{exact([]api.Flow{flow(10, 1, 1), flow(11, 1, 1), flow(0, 1, 9), flow(21, 1, 9)}, []api.Span{only(3), only(1)}, []api.Span{only(2), only(2)}, []api.Span{only(2), only(3)}), api.Clash{}, api.ErrNone},
		{exact([]api.Flow{flow(10, 1, 1), flow(21, 1, 1)}, []api.Span{only(3), only(1)}, []api.Span{only(2), only(2)}, []api.Span{only(2), only(3)}), api.Clash{Cell: 1, From: 0, To: 2}, api.OK},
		// Of a gauge that allows nothing no pair is told, but itself; what is before it in order comes first.
		{odd, api.Clash{Cell: 0, From: 2, To: 2}, api.OK},
		{exact(nil, []api.Span{span(0, 9)}), api.Clash{}, api.ErrNone},
		{largestHistory(), api.Clash{}, api.ErrNone},
	} {
		if c, e := gas.Conflict(x.h); c != x.want || e != x.e {
			t.Error(i, c, e)
		}
	}
	odd.Gauges[2].Volumes[0] = span(8, 10)
	if c, e := gas.Conflict(odd); c != (api.Clash{Cell: 1, From: 2, To: 2}) || e != api.OK {
		t.Error(c, e)
	}
	odd.Gauges[2].Volumes[1] = only(10)
	if c, e := gas.Conflict(odd); c != (api.Clash{Cell: 1, From: 0, To: 2}) || e != api.OK {
		t.Error(c, e)
	}
}

// firstClash looks for clashes as the chapter defines them, in their order.
func firstClash(h api.History) (api.Clash, bool) {
	for cell := range h.Warm {
		for to, later := range h.Gauges {
			l := amountsOf(later, cell)
			for from, before := range h.Gauges[:to+1] {
				b := amountsOf(before, cell)
				if from == to && len(l) == 0 {
					return api.Clash{Cell: cell, From: to, To: to}, true
				}
				if from < to && len(b) > 0 && len(l) > 0 && slices.Max(b)+flowsOf(h, cell, before.Time, later.Time) < slices.Min(l) {
					return api.Clash{Cell: cell, From: from, To: to}, true
				}
			}
		}
	}
	return api.Clash{}, false
}

// There is a clash exactly if the history allows no amounts.
func TestP3_12Conflict(t *testing.T) {
	r := rand.New(rand.NewSource(313))
	count := map[api.Errno]int{}
	pairs := 0
	for range 6000 {
		h := someHistory(r)
		want, found := firstClash(h)
		c, e := gas.Conflict(h)
		count[e]++
		if c != want || (e == api.OK) != found || e != api.OK && e != api.ErrNone {
			t.Fatal(h, c, e, want)
		}
		if c.From != c.To {
			pairs++
		}
		allows := true
		for cell := range h.Warm {
			allows = allows && len(leaksOf(h, cell)) > 0
		}
		_, leaks := gas.Leaks(h, span(0, api.MaxBooks))
		if allows == found || allows != (leaks == api.OK) {
			t.Fatal(h, c, e, allows, leaks)
		}
	}
	if min(count[api.OK], count[api.ErrNone], pairs) < 500 {
		t.Error("hardly any of a kind:", count, pairs)
	}
}

// With gauges of cells that did leak, what has leaked is in the spans, and a cell that is named has leaked.
func TestN3Leaks(t *testing.T) {
	r := rand.New(rand.NewSource(33))
	named := 0
	for range 1000 {
		var h api.History
		var has, leaked []int
		cells := 1 + r.Intn(4)
		for range cells {
			h.Warm = append(h.Warm, within(r, -20, 20))
			has = append(has, 1000+r.Intn(100000))
			leaked = append(leaked, 0)
		}
		sum := 0
		for i := range 1 + r.Intn(6) {
			if i > 0 {
				f := flow(10*i-r.Intn(10), r.Intn(cells), r.Intn(1000)-500)
				h.Flows = append(h.Flows, f)
				has[f.Cell] += f.N
				gone := r.Intn(200)
				c := r.Intn(cells)
				has[c], leaked[c], sum = has[c]-gone, leaked[c]+gone, sum+gone
			}
			a := narrow(r)
			g := api.Gauge{Time: 10 * i, Air: a}
			for c, n := range has {
				v := volumeOf(n, some(r, a.Press), some(r, a.Temp), some(r, h.Warm[c]))
				g.Volumes = append(g.Volumes, span(down(v), up(v)))
			}
			h.Gauges = append(h.Gauges, g)
		}
		total := span(max(sum-r.Intn(50), 0), sum+r.Intn(50))
		l, e := gas.Leaks(h, total)
		if e != api.OK || len(l) != cells {
			t.Fatal(h, total, l, e)
		}
		for c, s := range l {
			if leaked[c] < s.Lo || leaked[c] > s.Hi {
				t.Fatal(h, total, leaked, l)
			}
		}
		names, e := gas.Named(h, total)
		for _, c := range names {
			if leaked[c] == 0 || e != api.OK {
				t.Fatal(h, total, leaked, names, e)
			}
		}
		named += len(names)
	}
	if named < 100 {
		t.Error("hardly any cell is named:", named)
	}
}
