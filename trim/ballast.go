package trim

import (
	"iter"
	"slices"

	"ballonet/api"
)

// Drop returns which bags have to be dropped so that loads and the other bags keep all limits (P4.4).
func Drop(l []api.Load, bags []api.Put, limits []api.Limit) ([]int, api.Errno) {
	if e := checkBags(l, bags, limits); e != api.OK {
		return nil, e
	}
	left := slacks(l, limits)
tries:
	for dropped := range subsets(len(bags)) {
		kept := without(bags, dropped)
		for _, s := range left {
			if !s.holds(kept) {
				continue tries
			}
		}
		return slices.Clone(dropped), api.OK
	}
	return nil, api.ErrNone
}

// checkBags returns the errors of loads and limits, and then of bags.
func checkBags(l []api.Load, bags []api.Put, limits []api.Limit) api.Errno {
	if e := checkBoth(l, limits); e != api.OK {
		return e
	}
	if len(l)+len(bags) > api.MaxLoads {
		return api.ErrMany
	}
	return checkList(bags, api.MaxBags, isBag, api.ErrLoad)
}

func isBag(p api.Put) bool { return isPlace(p.At) && inOrder(1, p.Weight, api.MaxBag) }

// slack is what loads leave of a limit: how much more the value may be, on the limit's scale.
type slack struct {
	scale
	left int
}

// slacks returns what loads leave of each limit. It is below 0 if they do not keep it.
func slacks(l []api.Load, limits []api.Limit) []slack {
	left := make([]slack, len(limits))
	for i, x := range limits {
		s := scaleOf(x)
		left[i] = slack{s, x.C - s.most(l)}
	}
	return left
}

// holds reports whether the loads and some puts, together, keep the limit.
func (s slack) holds(puts []api.Put) bool { return total(puts, s.value) <= s.left }

// subsets yields all sets of bags, at most MaxBags, as indices in increasing order: those of fewer bags first, and those of the same number in lexicographic order. A set is only read, and only until the next one; it has no room behind it, so that nothing is appended over what the next one is made of.
func subsets(bags int) iter.Seq[[]int] {
	return func(yield func(set []int) bool) {
		var room [api.MaxBags]int
		for size := range bags + 1 {
			set := room[:size:size]
			count(set, 0)
			for more := true; more; more = advance(set, bags) {
				if !yield(set) {
					return
				}
			}
		}
	}
}

// count sets a list to the numbers from one on.
func count(l []int, from int) {
	for i := range l {
		l[i] = from + i
	}
}

// advance turns a set of bags into the next one of its size, and reports whether there is one.
func advance(set []int, bags int) bool {
	for i := len(set) - 1; i >= 0; i-- {
		if last := bags - len(set) + i; set[i] < last {
			count(set[i:], set[i]+1)
			return true
		}
	}
	return false
}

// without returns the bags that are not dropped.
func without(bags []api.Put, dropped []int) []api.Put {
	var kept []api.Put
	for i, b := range bags {
		if !slices.Contains(dropped, i) {
			kept = append(kept, b)
		}
	}
	return kept
}
