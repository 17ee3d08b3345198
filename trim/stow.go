package trim

import (
	"slices"

	"ballonet/api"
)

// CheckStow returns what is wrong with a stowage (P4.5).
func CheckStow(l []api.Load, holds []api.Hold, parcels []api.Parcel, rules []api.Rule, limits []api.Limit, stow []int) api.Errno {
	if e := checkCargo(l, holds, parcels, rules, limits); e != api.OK {
		return e
	}
	c := cargo{holds, parcels, rules, slacks(l, limits)}
	switch {
	case !c.isStowage(stow):
		return api.ErrArg
	case c.isHeavy(stow):
		return api.ErrRoom
	case c.isNear(stow):
		return api.ErrNear
	case c.isOff(stow):
		return api.ErrTrim
	}
	return api.OK
}

// Stow returns the first stowage with which nothing is wrong (P4.5).
func Stow(l []api.Load, holds []api.Hold, parcels []api.Parcel, rules []api.Rule, limits []api.Limit) ([]int, api.Errno) {
	if e := checkCargo(l, holds, parcels, rules, limits); e != api.OK {
		return nil, e
	}
	stow, found := cargo{holds, parcels, rules, slacks(l, limits)}.first()
	if !found {
		return nil, api.ErrNone
	}
	return stow, api.OK
}

// checkCargo returns the errors of loads and limits, and then of holds, parcels and rules.
func checkCargo(l []api.Load, holds []api.Hold, parcels []api.Parcel, rules []api.Rule, limits []api.Limit) api.Errno {
	if e := checkBoth(l, limits); e != api.OK {
		return e
	}
	if len(holds) > api.MaxHolds || len(parcels) > api.MaxParcels || len(rules) > api.MaxRules || len(l)+len(parcels) > api.MaxLoads {
		return api.ErrMany
	}
	if !all(holds, isHold) || !all(parcels, isParcel) || !all(rules, isRule) {
		return api.ErrHold
	}
	return api.OK
}

func isHold(h api.Hold) bool { return isPlace(h.At) && inOrder(0, h.Room, api.MaxWeight) }

func isClass(n int) bool { return inOrder(0, n, api.MaxClass) }

func isParcel(p api.Parcel) bool { return inOrder(1, p.Weight, api.MaxBag) && isClass(p.Class) }

func isRule(r api.Rule) bool {
	return isClass(r.A) && isClass(r.B) && inOrder(1, r.Apart, api.MaxHolds)
}

// cargo is parcels that are stowed in holds by rules, and the slack that the loads leave of each limit.
type cargo struct {
	holds   []api.Hold
	parcels []api.Parcel
	rules   []api.Rule
	slacks  []slack
}

// rooms is what weight each hold has room for.
type rooms [api.MaxHolds]int

// emptyRooms returns the rooms of all holds while nothing is stowed.
func (c cargo) emptyRooms() rooms {
	var r rooms
	for i, h := range c.holds {
		r[i] = h.Room
	}
	return r
}

// isStowage reports whether a list has the index of a hold for each parcel.
func (c cargo) isStowage(stow []int) bool {
	return len(stow) == len(c.parcels) && all(stow, func(hold int) bool { return inOrder(0, hold, len(c.holds)-1) })
}

// isHeavy reports whether a stowage is too heavy.
func (c cargo) isHeavy(stow []int) bool {
	left := c.emptyRooms()
	for i, hold := range stow {
		left[hold] -= c.parcels[i].Weight
	}
	return !all(left[:], func(room int) bool { return room >= 0 })
}

// isNear reports whether two parcels of a stowage are too near.
func (c cargo) isNear(stow []int) bool {
	for i := range stow {
		if c.isLastNear(stow[:i+1]) {
			return true
		}
	}
	return false
}

// isLastNear reports whether the last of the parcels that are stowed so far is too near to another one of them.
func (c cargo) isLastNear(stow []int) bool {
	last := len(stow) - 1
	for other := range last {
		apart := max(stow[last]-stow[other], stow[other]-stow[last])
		if apart < c.needed(c.parcels[last].Class, c.parcels[other].Class) {
			return true
		}
	}
	return false
}

// needed returns how far apart the holds of two classes have to be, 0 if there is no rule for them.
func (c cargo) needed(one, other int) int {
	apart := 0
	for _, r := range c.rules {
		if r.A == one && r.B == other || r.A == other && r.B == one {
			apart = max(apart, r.Apart)
		}
	}
	return apart
}

// isOff reports whether a stowage is off trim.
func (c cargo) isOff(stow []int) bool {
	puts := make([]api.Put, len(stow))
	for i, hold := range stow {
		puts[i] = api.Put{At: c.holds[hold].At, Weight: c.parcels[i].Weight}
	}
	return !all(c.slacks, func(s slack) bool { return s.holds(puts) })
}

// first returns the first stowage in lexicographic order with which nothing is wrong, and whether there is one.
func (c cargo) first() (stow []int, found bool) {
	var place [api.MaxParcels]int
	// search stows the parcels from next on. Each try has rooms of its own, as an array is copied; what is too heavy or too near already is not gone on with, as it stays so.
	var search func(next int, left rooms) bool
	search = func(next int, left rooms) bool {
		stowed := place[:next]
		if c.isLastNear(stowed) {
			return false
		}
		if next == len(c.parcels) {
			return !c.isOff(stowed)
		}
		for hold := range c.holds {
			less := left
			less[hold] -= c.parcels[next].Weight
			place[next] = hold
			if less[hold] >= 0 && search(next+1, less) {
				return true
			}
		}
		return false
	}
	if !search(0, c.emptyRooms()) {
		return nil, false
	}
	return slices.Clone(place[:len(c.parcels)]), true
}
