package mast

import (
	"cmp"
	"iter"
	"slices"

	"ballonet/api"
)

// Plan returns the first one of the shortest plans with which a ship gets to where it is to be (P7.5).
func Plan(p api.Port, b api.Berth, w api.Wind, ship uint8) ([]api.MastAct, api.Errno) {
	if e := cmp.Or(CheckBerth(p, b), CheckWind(w)); e != api.OK {
		return nil, e
	}
	if ship > api.ShipHoused {
		return nil, api.ErrArg
	}
	plan, found := quayOf(p).plan(b, w, ship)
	if !found {
		return nil, api.ErrNone
	}
	return plan, api.OK
}

// path is acts that can be done one after the other, and the berth to which they lead.
type path struct {
	acts []api.MastAct
	end  api.Berth
}

// plan returns the first one of the shortest plans, and whether there is one. Paths wait in the order of their acts, the shorter ones first; so of all paths to a berth the first one is met first, and no other one is gone on with.
func (q quay) plan(b api.Berth, w api.Wind, ship uint8) (plan []api.MastAct, found bool) {
	met := map[api.Berth]bool{b: true}
	for paths := []path{{end: b}}; len(paths) > 0; paths = paths[1:] {
		first := paths[0]
		if first.end.Ship == ship {
			return first.acts, true
		}
		for a := range q.tries() {
			end, _, e := q.after(first.end, api.MastStep{Act: a, Wind: w})
			if e == api.OK && !met[end] {
				met[end] = true
				paths = append(paths, path{append(slices.Clip(first.acts), a), end})
			}
		}
	}
	return nil, false
}

// tries yields the acts of which plans are made, in order. As no rule asks how many people hold the lines, if any do, no first plan has more of them there than are needed.
func (q quay) tries() iter.Seq[api.MastAct] {
	return func(yield func(a api.MastAct) bool) {
		for kind := uint8(api.MastCome); kind <= api.MastMoor; kind++ {
			least, most := 0, 0
			switch kind {
			case api.MastLines:
				least, most = q.need, q.need
			case api.MastTurn:
				most = len(q.Axes) - 1
			}
			for n := least; n <= most; n++ {
				if !yield(api.MastAct{Kind: kind, N: n}) {
					return
				}
			}
		}
	}
}
