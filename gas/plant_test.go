package gas_test

import (
	"math"
	"math/rand"
	"slices"
	"testing"

	"ballonet/api"
	"ballonet/gas"
)

func pair(helium, air int) api.Pair { return api.Pair{Helium: helium, Air: air} }

// balanced returns a plant with what must have come in.
func balanced(p api.Plant) api.Plant {
	p.In = pair(p.Bottles, 0)
	for _, c := range p.Cells {
		p.In.Helium += c.Helium
		p.In.Air += c.Air
	}
	for _, x := range []api.Pair{p.Valved, p.Leaked, p.Purged} {
		p.In.Helium += x.Helium
		p.In.Air += x.Air
	}
	return p
}

func plant(bottles int, cells ...api.Cell) api.Plant {
	return balanced(api.Plant{Cells: cells, Bottles: bottles})
}

// small is the plant of the chapter's examples.
func small() api.Plant { return plant(50, plain()) }

// used is a plant in which something of all has happened.
func used() api.Plant {
	leaky := cell(400, 70, 30, span(-5, 9))
	leaky.Leak, leaky.Owed = 90000, 999999
	return balanced(api.Plant{
		Cells: []api.Cell{plain(), leaky, cell(10, 0, 0, only(0))}, Bottles: 80,
		Valved: pair(3, 4), Leaked: pair(5, 6), Purged: pair(7, 8),
	})
}

// rich has room for hardly anything that comes in.
func rich() api.Plant {
	return balanced(api.Plant{Cells: []api.Cell{plain(), plain()}, Bottles: 100, Valved: pair(api.MaxBooks-2000, api.MaxBooks-300)})
}

func same(p, q api.Plant) bool {
	return slices.Equal(p.Cells, q.Cells) && p.Bottles == q.Bottles && p.In == q.In && p.Valved == q.Valved && p.Leaked == q.Leaked && p.Purged == q.Purged
}

func isNothing(p api.Plant) bool { return same(p, api.Plant{}) }

func act(kind uint8, cell, to, n int) api.GasAct {
	return api.GasAct{Kind: kind, Cell: cell, To: to, N: n}
}

// changed returns plants that are changed by f, each from a new copy of used.
func changed(f ...func(p *api.Plant)) []api.Plant {
	var l []api.Plant
	for _, f := range f {
		p := used()
		f(&p)
		l = append(l, p)
	}
	return l
}

func badPlants() []api.Plant {
	bad := changed(
		func(p *api.Plant) { p.In.Helium++ },
		func(p *api.Plant) { p.In.Helium-- },
		func(p *api.Plant) { p.In.Air++ },
		func(p *api.Plant) { p.In.Air-- },
		func(p *api.Plant) { p.In = api.Pair{} },
		func(p *api.Plant) { p.Bottles++ },
		func(p *api.Plant) { p.Cells[2].Helium++ },
		func(p *api.Plant) { p.Cells[1].Air++ },
		func(p *api.Plant) { p.Valved.Helium++ },
		func(p *api.Plant) { p.Leaked.Helium++ },
		func(p *api.Plant) { p.Purged.Helium++ },
		func(p *api.Plant) { p.Valved.Air++ },
		func(p *api.Plant) { p.Leaked.Air++ },
		func(p *api.Plant) { p.Purged.Air++ },
		func(p *api.Plant) { p.Cells = p.Cells[:2]; p.In.Helium++ },
		// Helium is not air.
		func(p *api.Plant) { p.In.Helium++; p.In.Air-- },
	)
	number := func(at func(p *api.Plant) *int, most int) {
		for _, n := range beyond(0, most) {
			for _, p := range []api.Plant{used(), {}} {
				*at(&p) = n
				bad = append(bad, p, balanced(p))
			}
		}
	}
	number(func(p *api.Plant) *int { return &p.Bottles }, mostAmount)
	for _, at := range []func(p *api.Plant) *api.Pair{
		func(p *api.Plant) *api.Pair { return &p.Valved },
		func(p *api.Plant) *api.Pair { return &p.Leaked },
		func(p *api.Plant) *api.Pair { return &p.Purged },
	} {
		number(func(p *api.Plant) *int { return &at(p).Helium }, api.MaxBooks)
		number(func(p *api.Plant) *int { return &at(p).Air }, api.MaxBooks)
	}
	for _, c := range badCells() {
		bad = append(bad, plant(0, c), plant(9, plain(), c), plant(0, c, plain()))
	}
	var many []api.Cell
	for range api.MaxCells + 1 {
		many = append(many, plain())
	}
	half := pair(api.MaxBooks/2, api.MaxBooks/2)
	return append(bad, plant(0, many...), plant(0, make([]api.Cell, 1000)...),
		// In is above MaxBooks, all else is not.
		balanced(api.Plant{Bottles: 1, Valved: half, Purged: half}),
		balanced(api.Plant{Cells: []api.Cell{cell(1, 0, 1, only(0))}, Leaked: half, Purged: half}),
		// These balance but for what is beyond an int.
		api.Plant{In: pair(0, 0), Valved: pair(math.MaxInt, 0), Leaked: pair(math.MaxInt, 0), Purged: pair(2, 0)},
		api.Plant{In: pair(-1, 0), Purged: pair(-1, 0)},
	)
}

func goodPlants() []api.Plant {
	var many []api.Cell
	for range api.MaxCells {
		many = append(many, fullest())
	}
	half := pair(api.MaxBooks/2, api.MaxBooks/2)
	return []api.Plant{
		{}, {Cells: []api.Cell{}}, small(), used(), rich(), plant(mostAmount, many...), plant(mostAmount),
		balanced(api.Plant{Valved: half, Leaked: half}), balanced(api.Plant{Purged: half, Leaked: half}),
		balanced(api.Plant{Bottles: mostAmount, Purged: pair(api.MaxBooks-mostAmount, api.MaxBooks)}),
	}
}

func TestP3_3Check(t *testing.T) {
	for i, p := range goodPlants() {
		if e := gas.Check(p); e != api.OK {
			t.Error(i, e)
		}
	}
	for i, p := range badPlants() {
		if e := gas.Check(p); e != api.ErrPlant {
			t.Error(i, p, e)
		}
	}
}

// R1 and R2: the error of the plant comes first, and nothing is beside it.
func TestP3_3PlantErrors(t *testing.T) {
	for i, p := range badPlants() {
		for _, a := range []api.GasAct{act(api.GasBuy, 0, 0, 1), act(api.GasTick, 0, 0, 0), act(0, -1, -1, -1)} {
			if q, e := gas.Do(p, a); e != api.ErrPlant || !isNothing(q) {
				t.Error(i, a, q, e)
			}
		}
		for _, n := range []int{0, 1, 201} {
			if q, at, e := gas.Play(p, make([]api.GasAct, n)); e != api.ErrPlant || at != 0 || !isNothing(q) {
				t.Error(i, n, q, at, e)
			}
		}
	}
}

func do(t *testing.T, p api.Plant, a api.GasAct) api.Plant {
	t.Helper()
	q, e := gas.Do(p, a)
	if e != api.OK {
		t.Fatal(p, a, e)
	}
	return q
}

// The chapter's example, act by act.
func TestP3_3Examples(t *testing.T) {
	p := small()
	p = do(t, p, act(api.GasValve, 0, 0, 10))
	want := api.Plant{Cells: []api.Cell{cell(300, 891, 99, only(0))}, Bottles: 50, In: pair(950, 100), Valved: pair(9, 1)}
	if !same(p, want) {
		t.Error(p)
	}
	// 101 * 891 / 990 is 90.9.
	p = do(t, p, act(api.GasPurify, 0, 0, 101))
	want.Cells[0].Helium, want.Cells[0].Air = 801, 88
	want.Bottles, want.Purged = 139, pair(1, 11)
	if !same(p, want) {
		t.Error(p)
	}
	leaky := plain()
	leaky.Leak = 5000
	p = do(t, plant(0, leaky), act(api.GasTick, 0, 0, 1))
	leaky.Helium, leaky.Air = 896, 99
	if !same(p, api.Plant{Cells: []api.Cell{leaky}, In: pair(900, 100), Leaked: pair(4, 1)}) {
		t.Error(p)
	}
	leaky = plain()
	leaky.Leak = 300
	for ticks, owed := range map[int]int{1: 300000, 2: 600000, 3: 900000} {
		p = do(t, plant(0, leaky), act(api.GasTick, 0, 0, ticks))
		c := leaky
		c.Owed = owed
		if !same(p, plant(0, c)) {
			t.Error(ticks, p)
		}
	}
	p = do(t, plant(0, leaky), act(api.GasTick, 0, 0, 4))
	// The share of one unit is 900 / 1000 of helium, rounded down.
	leaky.Air, leaky.Owed = 99, 200000
	if !same(p, api.Plant{Cells: []api.Cell{leaky}, In: pair(900, 100), Leaked: pair(0, 1)}) {
		t.Error(p)
	}
}

// Each act, and what it changes.
func TestP3_3Acts(t *testing.T) {
	for i, x := range []struct {
		a      api.GasAct
		change func(p *api.Plant)
	}{
		// Buying and ticks have no cell: whatever stands there is not asked for.
		{act(api.GasBuy, -1, -1, 1), func(p *api.Plant) { p.Bottles, p.In.Helium = 81, p.In.Helium+1 }},
		{act(api.GasBuy, 99, math.MinInt, mostAmount-80), func(p *api.Plant) { p.Bottles, p.In.Helium = mostAmount, p.In.Helium+mostAmount-80 }},
		{act(api.GasFill, 2, -7, 80), func(p *api.Plant) { p.Bottles, p.Cells[2].Helium = 0, 80 }},
		{act(api.GasFill, 0, 0, 1), func(p *api.Plant) { p.Bottles, p.Cells[0].Helium = 79, 901 }},
		{act(api.GasValve, 1, 9, 1), func(p *api.Plant) { p.Cells[1].Air, p.Valved.Air = 29, 5 }},
		{act(api.GasValve, 1, 9, 9), func(p *api.Plant) { p.Cells[1].Helium, p.Cells[1].Air, p.Valved = 64, 27, pair(9, 7) }},
		{act(api.GasValve, 1, 9, 100), func(p *api.Plant) { p.Cells[1].Helium, p.Cells[1].Air, p.Valved = 0, 0, pair(73, 34) }},
		{act(api.GasMove, 1, 2, 99), func(p *api.Plant) {
			p.Cells[1].Helium, p.Cells[1].Air, p.Cells[2].Helium, p.Cells[2].Air = 1, 0, 69, 30
		}},
		{act(api.GasMove, 0, 1, 10), func(p *api.Plant) {
			p.Cells[0].Helium, p.Cells[0].Air, p.Cells[1].Helium, p.Cells[1].Air = 891, 99, 79, 31
		}},
		{act(api.GasMove, 1, 0, 10), func(p *api.Plant) {
			p.Cells[1].Helium, p.Cells[1].Air, p.Cells[0].Helium, p.Cells[0].Air = 63, 27, 907, 103
		}},
		// Of 50 units of helium one is lost, of 49 none, of 99 one.
		{act(api.GasPurify, 0, -1, 56), func(p *api.Plant) {
			p.Cells[0].Helium, p.Cells[0].Air, p.Bottles, p.Purged = 850, 94, 129, pair(8, 14)
		}},
		{act(api.GasPurify, 0, 99, 55), func(p *api.Plant) { p.Cells[0].Helium, p.Cells[0].Air, p.Bottles, p.Purged = 851, 94, 129, pair(7, 14) }},
		{act(api.GasPurify, 0, 99, 111), func(p *api.Plant) {
			p.Cells[0].Helium, p.Cells[0].Air, p.Bottles, p.Purged = 801, 88, 178, pair(8, 20)
		}},
		{act(api.GasBreathe, 2, 5, mostAmount), func(p *api.Plant) { p.Cells[2].Air, p.In.Air = mostAmount, p.In.Air+mostAmount }},
		{act(api.GasBreathe, 0, 5, 1), func(p *api.Plant) { p.Cells[0].Air, p.In.Air = 101, p.In.Air+1 }},
		// 999999 and 9000000, and then what is left of that and 91 * 90000.
		{act(api.GasTick, -1, -1, 1), func(p *api.Plant) {
			p.Cells[1].Helium, p.Cells[1].Air, p.Cells[1].Owed, p.Leaked = 64, 27, 999999, pair(11, 9)
		}},
		{act(api.GasTick, -1, -1, 2), func(p *api.Plant) {
			p.Cells[1].Helium, p.Cells[1].Air, p.Cells[1].Owed, p.Leaked = 58, 24, 189999, pair(17, 12)
		}},
	} {
		p, want := used(), used()
		x.change(&want)
		if q := do(t, p, x.a); !same(q, want) || !same(p, used()) {
			t.Error(i, q, "instead of", want)
		}
	}
}

// What cannot be done: at the limits and just beyond them.
func TestP3_3ActErrors(t *testing.T) {
	full := plant(mostAmount, cell(9, mostAmount-5, 0, only(0)), cell(9, 100, mostAmount-5, only(0)), cell(9, 50, 50, only(0)))
	for i, x := range []struct {
		p api.Plant
		a api.GasAct
		e api.Errno
	}{
		{small(), act(0, 0, 0, 1), api.ErrArg},
		{small(), act(8, 0, 0, 1), api.ErrArg},
		{small(), act(255, 0, 0, 1), api.ErrArg},
		{api.Plant{}, act(api.GasFill, 0, 0, 1), api.ErrArg},
		{api.Plant{}, act(api.GasMove, 0, 0, 1), api.ErrArg},
		{api.Plant{}, act(api.GasBuy, 0, 0, mostAmount), api.OK},
		{api.Plant{}, act(api.GasTick, 0, 0, 1000), api.OK},
		{small(), act(api.GasBuy, 0, 0, mostAmount-50), api.OK},
		{small(), act(api.GasBuy, 0, 0, mostAmount-49), api.ErrFull},
		{full, act(api.GasBuy, 0, 0, 1), api.ErrFull},
		{small(), act(api.GasFill, 0, 0, 50), api.OK},
		{small(), act(api.GasFill, 0, 0, 51), api.ErrNone},
		{full, act(api.GasFill, 0, 0, 5), api.OK},
		{full, act(api.GasFill, 0, 0, 6), api.ErrFull},
		{plant(5, full.Cells...), act(api.GasFill, 0, 0, 6), api.ErrNone},
		{small(), act(api.GasValve, 0, 0, 1000), api.OK},
		{small(), act(api.GasValve, 0, 0, 1001), api.ErrNone},
		{plant(0, cell(9, 0, 0, only(0))), act(api.GasValve, 0, 0, 1), api.ErrNone},
		{full, act(api.GasMove, 2, 0, 11), api.OK},
		{full, act(api.GasMove, 2, 0, 12), api.ErrFull},
		{full, act(api.GasMove, 2, 1, 10), api.OK},
		{full, act(api.GasMove, 2, 1, 11), api.ErrFull},
		{full, act(api.GasMove, 2, 0, 101), api.ErrNone},
		{full, act(api.GasMove, 2, 2, 1), api.ErrArg},
		{full, act(api.GasMove, 2, 3, 1), api.ErrArg},
		{full, act(api.GasMove, 2, -1, 1), api.ErrArg},
		{full, act(api.GasMove, 2, math.MaxInt, 101), api.ErrArg},
		{full, act(api.GasMove, 2, math.MinInt, 101), api.ErrArg},
		{full, act(api.GasPurify, 2, 0, 1), api.OK},
		{full, act(api.GasPurify, 2, 0, 2), api.ErrFull},
		{full, act(api.GasPurify, 2, 0, 100), api.ErrFull},
		{full, act(api.GasPurify, 2, 0, 101), api.ErrNone},
		{full, act(api.GasBreathe, 1, 0, 5), api.OK},
		{full, act(api.GasBreathe, 1, 0, 6), api.ErrFull},
		{full, act(api.GasTick, 0, 0, 1000), api.OK},
		{full, act(api.GasTick, 0, 0, 1001), api.ErrArg},
		{full, act(api.GasTick, 0, 0, 0), api.ErrArg},
		{full, act(api.GasTick, 0, 0, math.MinInt), api.ErrArg},
		{full, act(api.GasTick, 0, 0, math.MaxInt), api.ErrArg},
		// In has room for 100 of helium, and for 100 of air.
		{rich(), act(api.GasBuy, 0, 0, 100), api.OK},
		{rich(), act(api.GasBuy, 0, 0, 101), api.ErrFull},
		{rich(), act(api.GasBreathe, 0, 0, 100), api.OK},
		{rich(), act(api.GasBreathe, 0, 0, 101), api.ErrFull},
		{rich(), act(api.GasFill, 0, 0, 101), api.ErrNone},
		{rich(), act(api.GasFill, 0, 0, 100), api.OK},
		{rich(), act(api.GasBuy, 0, 0, mostAmount+1), api.ErrArg},
		{rich(), act(api.GasPurify, 0, 0, 1000), api.OK},
	} {
		q, e := gas.Do(x.p, x.a)
		if e != x.e || e != api.OK && !isNothing(q) || e == api.OK && gas.Check(q) != api.OK {
			t.Error(i, x.a, e, q)
		}
	}
	for kind := uint8(api.GasBuy); kind <= api.GasBreathe; kind++ {
		for _, n := range append(beyond(1, mostAmount), 0) {
			if q, e := gas.Do(full, act(kind, 2, 0, n)); e != api.ErrArg || !isNothing(q) {
				t.Error(kind, n, e)
			}
		}
		for _, i := range beyond(0, 2) {
			// ErrArg comes before ErrNone and ErrFull; only buying has no cell.
			if q, e := gas.Do(full, act(kind, i, 0, 1000)); kind != api.GasBuy && (e != api.ErrArg || !isNothing(q)) {
				t.Error(kind, i, e)
			}
		}
	}
}

// model does an act as the table of the chapter says, one kind after the other.
func model(p api.Plant, a api.GasAct) (api.Plant, api.Errno) {
	p.Cells = slices.Clone(p.Cells)
	isCell := func(i int) bool { return i >= 0 && i < len(p.Cells) }
	isN := a.N >= 1 && a.N <= mostAmount
	var c, to api.Cell
	if isCell(a.Cell) {
		c = p.Cells[a.Cell]
	}
	if isCell(a.To) {
		to = p.Cells[a.To]
	}
	share := func(c api.Cell, n int) (helium, air int) {
		if c.Helium+c.Air == 0 {
			return 0, 0
		}
		helium = n * c.Helium / (c.Helium + c.Air)
		return helium, n - helium
	}
	helium, air := 0, 0
	if isN && isCell(a.Cell) {
		helium, air = share(c, a.N)
	}
	switch {
	case a.Kind < 1 || a.Kind > 7:
		return api.Plant{}, api.ErrArg
	case a.Kind == 7 && (a.N < 1 || a.N > 1000), a.Kind != 7 && !isN, a.Kind != 1 && a.Kind != 7 && !isCell(a.Cell):
		return api.Plant{}, api.ErrArg
	case a.Kind == 4 && (!isCell(a.To) || a.To == a.Cell):
		return api.Plant{}, api.ErrArg
	case a.Kind == 2 && p.Bottles < a.N, (a.Kind == 3 || a.Kind == 4 || a.Kind == 5) && c.Helium+c.Air < a.N:
		return api.Plant{}, api.ErrNone
	case a.Kind == 1 && p.Bottles+a.N > mostAmount, a.Kind == 2 && c.Helium+a.N > mostAmount, a.Kind == 4 && (to.Helium+helium > mostAmount || to.Air+air > mostAmount),
		a.Kind == 5 && p.Bottles+helium-helium/50 > mostAmount, a.Kind == 6 && c.Air+a.N > mostAmount,
		a.Kind == 1 && p.In.Helium+a.N > api.MaxBooks, a.Kind == 6 && p.In.Air+a.N > api.MaxBooks:
		return api.Plant{}, api.ErrFull
	}
	switch a.Kind {
	case 1:
		p.Bottles, p.In.Helium = p.Bottles+a.N, p.In.Helium+a.N
	case 2:
		p.Bottles, p.Cells[a.Cell].Helium = p.Bottles-a.N, c.Helium+a.N
	case 3:
		p.Valved = pair(p.Valved.Helium+helium, p.Valved.Air+air)
	case 4:
		p.Cells[a.To].Helium, p.Cells[a.To].Air = to.Helium+helium, to.Air+air
	case 5:
		p.Bottles, p.Purged = p.Bottles+helium-helium/50, pair(p.Purged.Helium+helium/50, p.Purged.Air+air)
	case 6:
		p.Cells[a.Cell].Air, p.In.Air = c.Air+a.N, p.In.Air+a.N
	case 7:
		for range a.N {
			for i, c := range p.Cells {
				all := c.Owed + (c.Helium+c.Air)*c.Leak
				helium, air := share(c, all/1000000)
				c.Helium, c.Air, c.Owed = c.Helium-helium, c.Air-air, all%1000000
				p.Leaked = pair(p.Leaked.Helium+helium, p.Leaked.Air+air)
				p.Cells[i] = c
			}
		}
	}
	if a.Kind >= 3 && a.Kind <= 5 {
		p.Cells[a.Cell].Helium, p.Cells[a.Cell].Air = c.Helium-helium, c.Air-air
	}
	return p, api.OK
}

// somePlant returns a plant of some cells, often with the most of something.
func somePlant(r *rand.Rand) api.Plant {
	most := []int{3, 100, mostAmount}[r.Intn(3)]
	n := func() int { return []int{0, most, r.Intn(most + 1), r.Intn(most + 1)}[r.Intn(4)] }
	p := api.Plant{Bottles: n()}
	for range r.Intn(4) + r.Intn(2)*r.Intn(10) {
		c := cell(1+r.Intn(mostRoom), n(), n(), within(r, -api.MaxWarm, api.MaxWarm))
		c.Leak, c.Owed = []int{0, api.MaxLeak, r.Intn(api.MaxLeak)}[r.Intn(3)], []int{0, 999999, r.Intn(999999)}[r.Intn(3)]
		p.Cells = append(p.Cells, c)
	}
	for _, x := range []*api.Pair{&p.Valved, &p.Leaked, &p.Purged} {
		*x = pair(n(), n())
	}
	p = balanced(p)
	if r.Intn(4) == 0 {
		// Hardly any room in the books.
		room := pair(r.Intn(2*most), r.Intn(2*most))
		p.Purged.Helium += max(api.MaxBooks-p.In.Helium-room.Helium, 0)
		p.Purged.Air += max(api.MaxBooks-p.In.Air-room.Air, 0)
	}
	return balanced(p)
}

func someAct(r *rand.Rand, p api.Plant) api.GasAct {
	a := act(uint8(1+r.Intn(7)), r.Intn(len(p.Cells)+1), r.Intn(len(p.Cells)+1), 1+r.Intn([]int{4, 200, 1000, mostAmount}[r.Intn(4)]))
	if a.Cell < len(p.Cells) && r.Intn(2) == 0 {
		c := p.Cells[a.Cell]
		a.N = []int{c.Helium + c.Air, c.Helium, p.Bottles, mostAmount - c.Helium, mostAmount - c.Air, mostAmount - p.Bottles, api.MaxTicks}[r.Intn(7)]
		a.N += r.Intn(3) - 1
	}
	if r.Intn(20) == 0 {
		a.Kind = uint8(r.Intn(256))
	}
	return a
}

// Whatever is done, it is done as the chapter's table says, and the books balance.
func TestP3_10Model(t *testing.T) {
	r := rand.New(rand.NewSource(310))
	count := map[uint8]map[api.Errno]int{}
	for range 20000 {
		p := somePlant(r)
		a := someAct(r, p)
		q, e := gas.Do(p, a)
		want, wantE := model(p, a)
		if e != wantE || !same(q, want) {
			t.Fatal(p, a, q, e, "instead of", want, wantE)
		}
		if e == api.OK && gas.Check(q) != api.OK {
			t.Fatal(p, a, q)
		}
		if count[a.Kind] == nil {
			count[a.Kind] = map[api.Errno]int{}
		}
		count[a.Kind][e]++
	}
	for kind := uint8(api.GasBuy); kind <= api.GasTick; kind++ {
		for _, e := range []api.Errno{api.OK, api.ErrArg, api.ErrNone, api.ErrFull} {
			never := e == api.ErrNone && (kind == api.GasBuy || kind >= api.GasBreathe) || e == api.ErrFull && (kind == api.GasValve || kind == api.GasTick)
			if n := count[kind][e]; never != (n == 0) || !never && n < 20 {
				t.Error(kind, e, n)
			}
		}
	}
}

// N3: gas is conserved, and what is not named stays.
func TestN3Conserved(t *testing.T) {
	r := rand.New(rand.NewSource(3))
	for range 5000 {
		p := somePlant(r)
		a := someAct(r, p)
		q, e := gas.Do(p, a)
		if e != api.OK {
			continue
		}
		if in := balanced(q).In; in != q.In {
			t.Fatal(p, a, q)
		}
		// Put back what the act may change: then nothing else differs.
		q.Cells = slices.Clone(q.Cells)
		for i := range q.Cells {
			if a.Kind == api.GasTick {
				q.Cells[i].Owed = p.Cells[i].Owed
			}
			if a.Kind == api.GasTick || a.Kind != api.GasBuy && i == a.Cell || a.Kind == api.GasMove && i == a.To {
				q.Cells[i].Helium, q.Cells[i].Air = p.Cells[i].Helium, p.Cells[i].Air
			}
		}
		switch a.Kind {
		case api.GasBuy:
			q.Bottles, q.In.Helium = p.Bottles, p.In.Helium
		case api.GasFill:
			q.Bottles = p.Bottles
		case api.GasValve:
			q.Valved = p.Valved
		case api.GasPurify:
			q.Bottles, q.Purged = p.Bottles, p.Purged
		case api.GasBreathe:
			q.In.Air = p.In.Air
		case api.GasTick:
			q.Leaked = p.Leaked
		}
		if !same(p, q) {
			t.Fatal(p, a, q)
		}
	}
}

// The rest of a cell has as much helium as before its gas went out, but for less than a unit.
func TestP3_10Rest(t *testing.T) {
	r := rand.New(rand.NewSource(311))
	tried := 0
	for range 10000 {
		p := somePlant(r)
		a := someAct(r, p)
		a.Kind = []uint8{api.GasValve, api.GasMove}[r.Intn(2)]
		q, e := gas.Do(p, a)
		if e != api.OK {
			continue
		}
		tried++
		before, after := p.Cells[a.Cell], q.Cells[a.Cell]
		all := before.Helium + before.Air
		// after.Helium less what it should be, which is before.Helium * (all - N) / all, as so many parts of all.
		if off := after.Helium*all - before.Helium*(all-a.N); off < 0 || off >= all || after.Helium+after.Air != all-a.N {
			t.Error(p, a, q)
		}
	}
	if tried < 1000 {
		t.Error("hardly anything is done:", tried)
	}
}

// One tick after the other is as all of them at once.
func TestP3_10Ticks(t *testing.T) {
	r := rand.New(rand.NewSource(312))
	for range 200 {
		p := somePlant(r)
		n := 2 + r.Intn(40)
		q := p
		for range n {
			q = do(t, q, act(api.GasTick, 0, 0, 1))
		}
		if at := do(t, p, act(api.GasTick, 0, 0, n)); !same(at, q) {
			t.Error(p, n, at, q)
		}
	}
}

func TestP3_3Play(t *testing.T) {
	buys := slices.Repeat([]api.GasAct{act(api.GasBuy, 0, 0, 10)}, api.MaxActs)
	p, at, e := gas.Play(small(), buys)
	if want := plant(50+10*api.MaxActs, plain()); e != api.OK || at != 0 || !same(p, want) {
		t.Error(p, at, e)
	}
	p, at, e = gas.Play(small(), append(buys, buys[0]))
	if e != api.ErrMany || at != 0 || !isNothing(p) {
		t.Error(p, at, e)
	}
	p, at, e = gas.Play(small(), make([]api.GasAct, api.MaxActs+1))
	if e != api.ErrMany || at != 0 || !isNothing(p) {
		t.Error(p, at, e)
	}
	for _, none := range [][]api.GasAct{nil, {}} {
		if p, at, e = gas.Play(small(), none); e != api.OK || at != 0 || !same(p, small()) {
			t.Error(p, at, e)
		}
	}
	acts := []api.GasAct{act(api.GasValve, 0, 0, 10), act(api.GasPurify, 0, 0, 101), act(api.GasFill, 0, 0, 140), act(api.GasBuy, 0, 0, 1)}
	want := balanced(api.Plant{Cells: []api.Cell{cell(300, 801, 88, only(0))}, Bottles: 139, Valved: pair(9, 1), Purged: pair(1, 11)})
	if p, at, e = gas.Play(small(), acts); e != api.ErrNone || at != 2 || !same(p, want) {
		t.Error(p, at, e)
	}
	// The first act: the plant before it is the one that was given.
	if p, at, e = gas.Play(used(), acts[2:]); e != api.ErrNone || at != 0 || !same(p, used()) {
		t.Error(p, at, e)
	}
	acts[3] = act(9, 0, 0, 0)
	if p, at, e = gas.Play(plant(5000, plain()), acts); e != api.ErrArg || at != 3 || gas.Check(p) != api.OK || p.Cells[0].Helium != 941 {
		t.Error(p, at, e)
	}
}

// What Play does is what Do does, act by act.
func TestP3_10Play(t *testing.T) {
	r := rand.New(rand.NewSource(313))
	count := map[api.Errno]int{}
	for range 3000 {
		p := somePlant(r)
		var acts []api.GasAct
		for range r.Intn(6) {
			acts = append(acts, someAct(r, p))
		}
		want, wantAt, wantE := p, 0, api.OK
		for i, a := range acts {
			next, e := gas.Do(want, a)
			if e != api.OK {
				wantAt, wantE = i, e
				break
			}
			want = next
		}
		q, at, e := gas.Play(p, acts)
		if e != wantE || at != wantAt || !same(q, want) {
			t.Fatal(p, acts, q, at, e, "instead of", want, wantAt, wantE)
		}
		count[e]++
	}
	if count[api.OK] < 300 || count[api.ErrArg] < 100 || count[api.ErrNone] < 100 || count[api.ErrFull] < 100 {
		t.Error("hardly any of a kind:", count)
	}
}
