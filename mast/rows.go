package mast

import (
	"iter"
	"slices"

	"ballonet/api"
)

// CheckRows returns ErrRows unless a decision table is valid (P7.6).
func CheckRows(d api.Decisions) api.Errno {
	if !inOrder(1, len(d.Vars), api.MaxVars) || !areValues(d.Vars) || len(d.Rows) > api.MaxRows {
		return api.ErrRows
	}
	for _, r := range d.Rows {
		if len(r.Conds) != len(d.Vars) || !areValues(r.Conds) || !inOrder(0, r.Action, api.MaxAction) {
			return api.ErrRows
		}
	}
	return api.OK
}

// areValues reports whether some spans are of values that a variable may have.
func areValues(l []api.Span) bool {
	isNone := func(s api.Span) bool { return !inOrder(-api.MaxValue, s.Lo, s.Hi, api.MaxValue) }
	return !slices.ContainsFunc(l, isNone)
}

// Decide returns the row that matches a state (P7.6).
func Decide(d api.Decisions, state []int) (row int, e api.Errno) {
	if e := CheckRows(d); e != api.OK {
		return 0, e
	}
	if !areIn(state, d.Vars) {
		return 0, api.ErrArg
	}
	rows, n := firstTwo(d, state)
	switch n {
	case 0:
		return 0, api.ErrNone
	case 1:
		return rows[0], api.OK
	}
	return 0, api.ErrTwice
}

// areIn reports whether there is a number for each of some spans, which is in it.
func areIn(numbers []int, spans []api.Span) bool {
	if len(numbers) != len(spans) {
		return false
	}
	for i, s := range spans {
		if !inOrder(s.Lo, numbers[i], s.Hi) {
			return false
		}
	}
	return true
}

// matching yields the indices of the rows that match a state, in increasing order.
func matching(d api.Decisions, state []int) iter.Seq[int] {
	return func(yield func(row int) bool) {
		for i, r := range d.Rows {
			if areIn(state, r.Conds) && !yield(i) {
				return
			}
		}
	}
}

// firstTwo returns the first rows that match a state, and how many these are, at most two.
func firstTwo(d api.Decisions, state []int) (rows [2]int, n int) {
	for row := range matching(d, state) {
		rows[n] = row
		n++
		if n == len(rows) {
			break
		}
	}
	return rows, n
}

// Gap returns the first state that no row matches (P7.6).
func Gap(d api.Decisions) ([]int, api.Errno) {
	state, _, e := firstWith(d, 0)
	return state, e
}

// Twice returns the first state that two rows match, and the first two of them (P7.6).
func Twice(d api.Decisions) (state []int, i, k int, e api.Errno) {
	state, rows, e := firstWith(d, 2)
	return state, rows[0], rows[1], e
}

// firstWith returns the first state that so many rows match, where two stand for more, too; and the first two of them.
func firstWith(d api.Decisions, number int) ([]int, [2]int, api.Errno) {
	if e := CheckRows(d); e != api.OK {
		return nil, [2]int{}, e
	}
	for state := range turns(d) {
		if rows, n := firstTwo(d, state); n == number {
			return slices.Clone(state), rows, api.OK
		}
	}
	return nil, [2]int{}, api.ErrNone
}

// turns yields, in order, the states of which each number is one where other rows may match than with the number before: the first state that some rows match is one of these. The state that is yielded is overwritten by the next one.
func turns(d api.Decisions) iter.Seq[[]int] {
	return func(yield func(state []int) bool) {
		values := make([][]int, len(d.Vars))
		for i := range values {
			values[i] = turnsOf(d, i)
		}
		state := make([]int, len(d.Vars))
		var from func(variable int) bool
		from = func(variable int) bool {
			if variable == len(state) {
				return yield(state)
			}
			for _, n := range values[variable] {
				state[variable] = n
				if !from(variable + 1) {
					return false
				}
			}
			return true
		}
		from(0)
	}
}

// turnsOf returns the first value of a variable, and those where a row begins to match, or ends, in increasing order.
func turnsOf(d api.Decisions, variable int) []int {
	in := d.Vars[variable]
	values := []int{in.Lo}
	for _, r := range d.Rows {
		for _, n := range [...]int{r.Conds[variable].Lo, r.Conds[variable].Hi + 1} {
			if inOrder(in.Lo, n, in.Hi) {
				values = append(values, n)
			}
		}
	}
	slices.Sort(values)
	return slices.Compact(values)
}
