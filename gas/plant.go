package gas

import (
	"slices"

	"ballonet/api"
)

// Check returns ErrPlant unless a plant is valid (P3.3).
func Check(p api.Plant) api.Errno {
	if len(p.Cells) > api.MaxCells || !isAmount(p.Bottles) || !areBooks(p.In, p.Valved, p.Leaked, p.Purged) {
		return api.ErrPlant
	}
	if slices.ContainsFunc(p.Cells, func(c api.Cell) bool { return CheckCell(c) != api.OK }) {
		return api.ErrPlant
	}
	if found(p) != p.In {
		return api.ErrPlant
	}
	return api.OK
}

// areBooks reports whether all numbers of some accounts are in their range.
func areBooks(accounts ...api.Pair) bool {
	for _, a := range accounts {
		if !inOrder(0, a.Helium, api.MaxBooks) || !inOrder(0, a.Air, api.MaxBooks) {
			return false
		}
	}
	return true
}

// found returns all that a plant has, and all that has gone out of it: the books balance if this is what came in.
func found(p api.Plant) api.Pair {
	all := sum(api.Pair{Helium: p.Bottles}, p.Valved, p.Leaked, p.Purged)
	for _, c := range p.Cells {
		all = sum(all, api.Pair{Helium: c.Helium, Air: c.Air})
	}
	return all
}

// sum returns some amounts together.
func sum(pairs ...api.Pair) api.Pair {
	var all api.Pair
	for _, p := range pairs {
		all.Helium += p.Helium
		all.Air += p.Air
	}
	return all
}

// Do returns a plant after an act (P3.3).
func Do(p api.Plant, a api.GasAct) (api.Plant, api.Errno) {
	if e := Check(p); e != api.OK {
		return api.Plant{}, e
	}
	return after(p, a)
}

// Play returns a plant after some acts (P3.3).
func Play(p api.Plant, acts []api.GasAct) (q api.Plant, at int, e api.Errno) {
	if e := Check(p); e != api.OK {
		return api.Plant{}, 0, e
	}
	if len(acts) > api.MaxActs {
		return api.Plant{}, 0, api.ErrMany
	}
	q = copied(p)
	for i, a := range acts {
		next, e := after(q, a)
		if e != api.OK {
			return q, i, e
		}
		q = next
	}
	return q, 0, api.OK
}

// copied returns a plant with cells of its own.
func copied(p api.Plant) api.Plant {
	p.Cells = slices.Clone(p.Cells)
	return p
}

// after returns a valid plant after an act, or the act's error.
func after(p api.Plant, a api.GasAct) (q api.Plant, e api.Errno) {
	defer func() {
		reason := recover()
		if reason == nil {
			return
		}
		refused, isRefused := reason.(api.Errno)
		if !isRefused {
			panic(reason)
		}
		q, e = api.Plant{}, refused
	}()
	w := works(copied(p))
	actOf(a.Kind)(&w, a)
	need(areBooks(w.In), api.ErrFull)
	return api.Plant(w), api.OK
}

// need ends an act that cannot be done, with its error, unless what it needs is so.
func need(so bool, e api.Errno) {
	if !so {
		panic(e)
	}
}

// works is a plant at work. Where an act cannot be done it may be left halfway, as after throws it away then.
type works api.Plant

// actOf returns what is done by an act of a kind.
func actOf(kind uint8) func(w *works, a api.GasAct) {
	acts := [...]func(w *works, a api.GasAct){
		api.GasBuy:     (*works).buy,
		api.GasFill:    (*works).fill,
		api.GasValve:   (*works).valve,
		api.GasMove:    (*works).move,
		api.GasPurify:  (*works).purify,
		api.GasBreathe: (*works).breathe,
		api.GasTick:    (*works).tick,
	}
	need(inOrder(api.GasBuy, int(kind), api.GasTick), api.ErrArg)
	return acts[kind]
}

func (w *works) buy(a api.GasAct) {
	need(isSome(a.N), api.ErrArg)
	w.In.Helium += a.N
	w.bottle(a.N)
}

func (w *works) fill(a api.GasAct) {
	c := w.cell(a)
	need(w.Bottles >= a.N, api.ErrNone)
	w.Bottles -= a.N
	put(c, api.Pair{Helium: a.N})
}

func (w *works) valve(a api.GasAct) {
	gone := take(w.cell(a), a.N)
	w.Valved = sum(w.Valved, gone)
}

func (w *works) move(a api.GasAct) {
	from := w.cell(a)
	need(w.has(a.To) && a.To != a.Cell, api.ErrArg)
	put(&w.Cells[a.To], take(from, a.N))
}

func (w *works) purify(a api.GasAct) {
	gas := take(w.cell(a), a.N)
	lost := gas.Helium / 50
	w.Purged = sum(w.Purged, api.Pair{Helium: lost, Air: gas.Air})
	w.bottle(gas.Helium - lost)
}

func (w *works) breathe(a api.GasAct) {
	c := w.cell(a)
	w.In.Air += a.N
	put(c, api.Pair{Air: a.N})
}

func (w *works) tick(a api.GasAct) {
	need(inOrder(1, a.N, api.MaxTicks), api.ErrArg)
	for range a.N {
		for i := range w.Cells {
			w.leak(&w.Cells[i])
		}
	}
}

// leak lets a cell leak once. A cell never leaks more than it has: it is a tenth at most, and one more unit at most that was owed.
func (w *works) leak(c *api.Cell) {
	owed := c.Owed + amount(*c)*c.Leak
	c.Owed = owed % million
	gone := take(c, owed/million)
	w.Leaked = sum(w.Leaked, gone)
}

// isSome reports whether a number of units is one that an act may be for.
func isSome(n int) bool { return inOrder(1, n, api.MaxAmount) }

// has reports whether a number is the index of a cell.
func (w *works) has(cell int) bool { return inOrder(0, cell, len(w.Cells)-1) }

// cell returns the cell that an act is for.
func (w *works) cell(a api.GasAct) *api.Cell {
	need(w.has(a.Cell) && isSome(a.N), api.ErrArg)
	return &w.Cells[a.Cell]
}

// bottle puts helium into the bottles.
func (w *works) bottle(n int) {
	w.Bottles += n
	need(isAmount(w.Bottles), api.ErrFull)
}

// put puts gas into a cell.
func put(c *api.Cell, gas api.Pair) {
	c.Helium += gas.Helium
	c.Air += gas.Air
	need(isAmount(c.Helium) && isAmount(c.Air), api.ErrFull)
}

// take takes the share of n units out of a cell.
func take(c *api.Cell, n int) api.Pair {
	all := amount(*c)
	need(all >= n, api.ErrNone)
	if n == 0 {
		// The cell may be empty, and an amount of 0 has no shares.
		return api.Pair{}
	}
	helium := n * c.Helium / all
	gone := api.Pair{Helium: helium, Air: n - helium}
	c.Helium -= gone.Helium
	c.Air -= gone.Air
	return gone
}
