package crew

import (
	"cmp"
	"slices"

	"ballonet/api"
)

// CheckCare returns ErrCare unless care is valid (P8.3).
func CheckCare(c api.Care) api.Errno {
	if !inOrder(1, c.Every, api.MaxDuty) || !inOrder(0, c.Grace, api.MaxDuty) || !inOrder(-c.Grace, c.Due, api.MaxDuty) {
		return api.ErrCare
	}
	return api.OK
}

// checkFlights returns ErrMany or ErrArg unless flights are valid.
func checkFlights(flights []int) api.Errno {
	if len(flights) > api.MaxFlights {
		return api.ErrMany
	}
	if slices.ContainsFunc(flights, func(n int) bool { return !inOrder(1, n, api.MaxMinute) }) {
		return api.ErrArg
	}
	return api.OK
}

// Late returns the first late flight of a plan, or what is left after all flights (P8.3).
func Late(c api.Care, flights, plan []int) (left int, at int, e api.Errno) {
	if e := cmp.Or(CheckCare(c), checkFlights(flights)); e != api.OK {
		return 0, 0, e
	}
	if !isPlan(plan, len(flights)) {
		return 0, 0, api.ErrArg
	}
	return fly(c, flights, plan)
}

// isPlan reports whether a list is an increasing one of indices of flights.
func isPlan(plan []int, flights int) bool {
	least := 0
	for _, i := range plan {
		if !inOrder(least, i, flights-1) {
			return false
		}
		least = i + 1
	}
	return true
}

// fly returns what is left after all flights, or the first late flight with ErrLate.
func fly(c api.Care, flights, plan []int) (left int, at int, e api.Errno) {
	flown, due := 0, c.Due
	for i, minutes := range flights {
		if len(plan) > 0 && plan[0] == i {
			due = min(flown, due) + c.Every
			plan = plan[1:]
		}
		flown += minutes
		if flown > due+c.Grace {
			return 0, i, api.ErrLate
		}
	}
	return due - flown, 0, api.OK
}

// Inspect returns the plan with the fewest inspections in which no flight is late (P8.3). To fly on as long as may be does not find it: after an inspection that came later than it was due, two that came in time may leave more than this one does. So the number of inspections is tried.
func Inspect(c api.Care, flights []int) ([]int, api.Errno) {
	if e := cmp.Or(CheckCare(c), checkFlights(flights)); e != api.OK {
		return nil, e
	}
	for inspections := range len(flights) + 1 {
		if plan, isOne := latest(c, flights, inspections); isOne {
			return plan, api.OK
		}
	}
	return nil, api.ErrNone
}

// latest returns the last plan with so many inspections in which no flight is late, if there is one. It begins with the last plan of all, in which no inspection is earlier than in the right one. An inspection that comes later leaves the next one due no earlier: so a flight that is late here is late in the right plan too, if there are as many inspections before it, and one more of them has to be.
func latest(c api.Care, flights []int, inspections int) ([]int, bool) {
	plan := make([]int, inspections)
	for i := range plan {
		plan[i] = len(flights) - inspections + i
	}
	for {
		_, late, e := fly(c, flights, plan)
		if e == api.OK {
			return plan, true
		}
		before, _ := slices.BinarySearch(plan, late+1)
		if before == inspections || !hasten(plan[:before+1], late) {
			return nil, false
		}
	}
}

// hasten has the last inspection before a flight, and those before it before flights that are earlier by as little as may be. It reports whether there are enough of these.
func hasten(plan []int, flight int) bool {
	for i := len(plan) - 1; i >= 0 && plan[i] > flight; i-- {
		plan[i] = flight
		flight--
	}
	return plan[0] >= 0
}
