package gas_test

import (
	"math"
	"math/rand"
	"slices"
	"testing"

	"ballonet/api"
	"ballonet/gas"
)

// roomy returns a list with room behind it, in which there is something else.
func roomy[T any](l []T, behind T) []T {
	return append(slices.Clone(l), behind, behind, behind)[:len(l)]
}

// all returns all of a list's memory.
func all[T any](l []T) []T { return slices.Clone(l[:cap(l)]) }

// R3: arguments are only read, also what is behind their lists.
func TestP1UntouchedPlants(t *testing.T) {
	r := rand.New(rand.NewSource(21))
	for range 500 {
		p := somePlant(r)
		p.Cells = roomy(p.Cells, cell(7, 7, 7, only(7)))
		acts := roomy([]api.GasAct{someAct(r, p), someAct(r, p), someAct(r, p)}, act(api.GasTick, 0, 0, 9))
		cells, before := all(p.Cells), all(acts)
		gas.Check(p)
		gas.Do(p, acts[0])
		gas.Play(p, acts)
		if !slices.Equal(all(p.Cells), cells) || !slices.Equal(all(acts), before) {
			t.Fatal("changed", cells, before, "to", p.Cells, acts)
		}
	}
}

func sameGauge(a, b api.Gauge) bool {
	return a.Time == b.Time && a.Air == b.Air && slices.Equal(a.Volumes[:cap(a.Volumes)], b.Volumes)
}

func TestP1UntouchedHistories(t *testing.T) {
	for _, h := range append(goodHistories(), badHistories()[20:24]...) {
		h.Warm = roomy(h.Warm, only(9))
		h.Flows = roomy(h.Flows, flow(3, 3, 3))
		for i, g := range h.Gauges {
			h.Gauges[i].Volumes = roomy(g.Volumes, only(8))
		}
		h.Gauges = roomy(h.Gauges, gauge(7, only(7)))
		warm, flows, gauges := all(h.Warm), all(h.Flows), all(h.Gauges)
		for i, g := range gauges {
			gauges[i].Volumes = all(g.Volumes)
		}
		gas.CheckHistory(h)
		gas.Amounts(h, 0, 0)
		gas.Leaks(h, span(0, 9))
		gas.Named(h, span(0, 9))
		gas.Conflict(h)
		if !slices.Equal(all(h.Warm), warm) || !slices.Equal(all(h.Flows), flows) || !slices.EqualFunc(all(h.Gauges), gauges, sameGauge) {
			t.Fatal("changed", warm, flows, gauges, "to", h)
		}
	}
}

// spoil writes over all of a list's memory.
func spoil[T any](l []T, with T) {
	for i := range l[:cap(l)] {
		l[:cap(l)][i] = with
	}
}

// R3: results share no memory with arguments, nor with the results of other calls.
func TestP1NewMemory(t *testing.T) {
	other := cell(7, 7, 7, only(7))
	tries := [][]api.GasAct{
		nil, {act(api.GasBuy, 0, 0, 1)}, {act(api.GasMove, 0, 1, 1)}, {act(api.GasTick, 0, 0, 1)}, {act(0, 0, 0, 0)},
		{act(api.GasBuy, 0, 0, 1), act(api.GasFill, 9, 9, 9)}, {act(api.GasFill, 0, 0, 1), act(api.GasFill, 0, 0, 1)},
	}
	for i, acts := range tries {
		p := used()
		p.Cells = roomy(p.Cells, other)
		first, at, e := gas.Play(p, acts)
		want := slices.Clone(first.Cells)
		spoil(first.Cells, other)
		again, againAt, againE := gas.Play(p, acts)
		if !same(p, used()) || !slices.Equal(again.Cells, want) || at != againAt || e != againE {
			t.Error(i, p, again)
		}
		spoil(p.Cells, other)
		if !slices.Equal(again.Cells, want) {
			t.Error(i, again)
		}
	}
	p := used()
	first := do(t, p, act(api.GasBuy, 0, 0, 1))
	spoil(first.Cells, other)
	if again := do(t, p, act(api.GasBuy, 0, 0, 1)); !same(p, used()) || !slices.Equal(again.Cells, p.Cells) {
		t.Error(p, again)
	}
	h := short()
	leaks, _ := gas.Leaks(h, span(0, 8))
	named, _ := gas.Named(h, span(0, 8))
	spoil(leaks, only(7))
	spoil(named, 7)
	leaks, _ = gas.Leaks(h, span(0, 8))
	named, _ = gas.Named(h, span(0, 8))
	if !slices.Equal(leaks, []api.Span{span(6, 8)}) || !slices.Equal(named, []int{0}) {
		t.Error(leaks, named)
	}
}

// R4: lists that are nil and lists that are empty are the same.
func TestP1Empty(t *testing.T) {
	for _, cells := range [][]api.Cell{nil, {}, make([]api.Cell, 0, 9)} {
		for _, acts := range [][]api.GasAct{nil, {}, make([]api.GasAct, 0, 9)} {
			p := api.Plant{Cells: cells}
			if q, at, e := gas.Play(p, acts); gas.Check(p) != api.OK || e != api.OK || at != 0 || !isNothing(q) {
				t.Error(q, at, e)
			}
		}
		if q, e := gas.Do(api.Plant{Cells: cells}, act(api.GasTick, 0, 0, 5)); e != api.OK || !isNothing(q) {
			t.Error(q, e)
		}
	}
	for _, flows := range [][]api.Flow{nil, {}, make([]api.Flow, 0, 9)} {
		h := short()
		h.Flows = flows
		if l, e := gas.Leaks(h, span(0, 99)); e != api.OK || !slices.Equal(l, []api.Span{span(11, 17)}) {
			t.Error(l, e)
		}
	}
}

// wild returns any number, most often one at which something overflows or ends.
func wild(r *rand.Rand) int {
	base := []int{0, 0, 1, 300, 500, 1000, 1500, 3500, 12000, 100000, 1000000, mostAmount, 1 << 31, 1 << 32, api.MaxBooks, 1 << 62, math.MaxInt, math.MinInt}
	n := base[r.Intn(len(base))] + r.Intn(3) - 1
	if r.Intn(2) == 0 {
		return -n
	}
	return n
}

// wildOne puts something wild into one of some numbers, now and then.
func wildOne(r *rand.Rand, n ...*int) {
	if r.Intn(4) == 0 {
		*n[r.Intn(len(n))] = wild(r)
	}
}

func wildCell(r *rand.Rand, c *api.Cell) {
	wildOne(r, &c.Room, &c.Helium, &c.Air, &c.Warm.Lo, &c.Warm.Hi, &c.Leak, &c.Owed)
}

func wildAir(r *rand.Rand) api.Air {
	a := someAir(r)
	wildOne(r, &a.Press.Lo, &a.Press.Hi, &a.Temp.Lo, &a.Temp.Hi)
	return a
}

func wildPlant(r *rand.Rand) api.Plant {
	p := somePlant(r)
	if len(p.Cells) > 0 && r.Intn(4) == 0 {
		wildCell(r, &p.Cells[r.Intn(len(p.Cells))])
	}
	wildOne(r, &p.Bottles, &p.Valved.Air, &p.Leaked.Helium, &p.Purged.Helium, &p.Purged.Air)
	if r.Intn(2) == 0 {
		p = balanced(p)
	}
	return p
}

func wildHistory(r *rand.Rand) api.History {
	h := someHistory(r)
	g := &h.Gauges[r.Intn(len(h.Gauges))]
	v := &g.Volumes[r.Intn(len(g.Volumes))]
	wildOne(r, &g.Time, &g.Air.Press.Lo, &g.Air.Temp.Hi, &v.Lo, &v.Hi, &h.Warm[0].Lo, &h.Warm[0].Hi)
	if len(h.Flows) > 0 {
		wildOne(r, &h.Flows[0].Time, &h.Flows[0].Cell, &h.Flows[0].N)
	}
	return h
}

// checker notes what is not as it has to be: what is returned is valid, and nothing is beside an error.
type checker struct {
	t   *testing.T
	oks map[string]int
}

func (c checker) check(name string, e api.Errno, valid, zero bool) {
	c.t.Helper()
	if e == api.OK {
		c.oks[name]++
	}
	if e == api.OK && !valid || e != api.OK && !zero {
		c.t.Error(name, e, valid, zero)
	}
}

// R2, R5, R6 and R7: whatever the arguments are, every call ends without a panic; what it returns is valid; and nothing is beside an error.
func TestP1Wild(t *testing.T) {
	r := rand.New(rand.NewSource(32))
	c := checker{t, map[string]int{}}
	within := func(s api.Span, least, most int) bool { return least <= s.Lo && s.Lo <= s.Hi && s.Hi <= most }
	none := api.Span{}
	for i := range 4000 {
		x, a := someCell(r, mostRoom), wildAir(r)
		wildCell(r, &x)
		s, e := gas.Volume(x, a)
		c.check("Volume", e, within(s, 0, 76000000), s == none)
		s, e = gas.Lift(x, a)
		c.check("Lift", e, within(s, -116000000, 366000000), s == none)
		s, e = gas.Valving(x, a)
		c.check("Valving", e, within(s, 0, 2*mostAmount), s == none)
		s, e = gas.Ceiling(x, a.Temp)
		c.check("Ceiling", e, within(s, 0, 76000000000), s == none)
		n, e := gas.Fits(x, a)
		c.check("Fits", e, n >= 1 && n <= 3, n == 0)

		h := someHull(r, calm(), mostRoom)
		wildOne(r, &h.Room, &h.Gas, &h.Warm.Lo, &h.Warm.Hi, &h.Ballonet, &h.Bag, &h.Least, &h.Most)
		s, e = gas.Over(h, a)
		c.check("Over", e, within(s, -12000, 73000000000), s == none)
		is, e := gas.Holds(h, a)
		c.check("Holds", e, true, !is)
		s, e = gas.Blow(h, calm())
		c.check("Blow", e, within(s, 0, h.Bag), s == none)
		if i%20 == 0 {
			p, e := gas.Roof(h, a.Temp)
			c.check("Roof", e, p >= api.MinPress && p <= api.MaxPress, p == 0)
		}
	}
	c.wildStates(r)
	for _, name := range []string{"Volume", "Lift", "Valving", "Ceiling", "Fits", "Over", "Holds", "Blow", "Roof", "Do", "Play", "Amounts", "Leaks", "Named", "Conflict"} {
		if c.oks[name] < 20 {
			t.Error("hardly anything is valid:", c.oks)
		}
	}
}

// wildStates goes on with plants and histories.
func (c checker) wildStates(r *rand.Rand) {
	for range 4000 {
		p := wildPlant(r)
		var acts []api.GasAct
		for range 1 + r.Intn(3) {
			a := someAct(r, p)
			wildOne(r, &a.Cell, &a.To, &a.N)
			acts = append(acts, a)
		}
		q, e := gas.Do(p, acts[0])
		c.check("Do", e, gas.Check(q) == api.OK, isNothing(q))
		q, at, e := gas.Play(p, acts)
		before := gas.Check(p) == api.OK && gas.Check(q) == api.OK && at < len(acts)
		c.check("Play", e, gas.Check(q) == api.OK && at == 0, isNothing(q) && at == 0 || before)

		h := wildHistory(r)
		total := within(r, 0, 20)
		wildOne(r, &total.Lo, &total.Hi)
		gauge, cell := r.Intn(2), 0
		wildOne(r, &gauge, &cell)
		s, e := gas.Amounts(h, gauge, cell)
		c.check("Amounts", e, s.Lo >= 0 && s.Lo <= s.Hi && s.Hi <= 100000000, s == api.Span{})
		l, e := gas.Leaks(h, total)
		c.check("Leaks", e, len(l) == len(h.Warm), len(l) == 0)
		named, e := gas.Named(h, total)
		c.check("Named", e, slices.IsSorted(named), len(named) == 0)
		clash, e := gas.Conflict(h)
		c.check("Conflict", e, clash.From <= clash.To && clash.To < len(h.Gauges), clash == api.Clash{})
	}
}
