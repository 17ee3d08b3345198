package crew_test

import (
	"math"
	"math/rand"
	"slices"
	"testing"

	"ballonet/api"
	"ballonet/crew"
)

func TestP8_3CheckCare(t *testing.T) {
	for i, x := range []struct {
		c    api.Care
		want api.Errno
	}{
		{care(), api.OK},
		{api.Care{Every: 1}, api.OK},
		{api.Care{Every: 100000, Grace: 100000, Due: 100000}, api.OK},
		{api.Care{Every: 1, Grace: 100000, Due: -100000}, api.OK},
		{api.Care{Every: 1, Grace: 5, Due: -5}, api.OK},
		{api.Care{Every: 1, Grace: 5, Due: -6}, api.ErrCare},
		{api.Care{Every: 1, Due: -1}, api.ErrCare},
		{api.Care{Every: 1, Due: 100001}, api.ErrCare},
		{api.Care{}, api.ErrCare},
		{api.Care{Every: 100001}, api.ErrCare},
		{api.Care{Every: -1}, api.ErrCare},
		{api.Care{Every: 1, Grace: -1}, api.ErrCare},
		{api.Care{Every: 1, Grace: -1, Due: 1}, api.ErrCare},
		{api.Care{Every: 1, Grace: 100001}, api.ErrCare},
		{api.Care{Every: 1, Grace: math.MinInt, Due: math.MinInt}, api.ErrCare},
		{api.Care{Every: 1, Grace: math.MaxInt, Due: math.MinInt}, api.ErrCare},
	} {
		if e := crew.CheckCare(x.c); e != x.want {
			t.Error(i, e)
		}
	}
}

func TestP8_3Late(t *testing.T) {
	c := care()
	for i, x := range []struct {
		c             api.Care
		flights, plan []int
		left, at      int
		e             api.Errno
	}{
		{c, flights(), []int{2, 4}, 60, 0, api.OK},
		{c, flights(), []int{3}, 0, 2, api.ErrLate},
		{c, flights(), nil, 0, 2, api.ErrLate},
		{c, flights(), []int{2}, 0, 4, api.ErrLate},
		{c, flights(), []int{2, 3}, 25, 0, api.OK},
		{c, flights(), []int{0, 1, 2, 3, 4}, 70, 0, api.OK},
		{c, nil, nil, 30, 0, api.OK},
		{api.Care{Every: 9, Grace: 7, Due: -7}, nil, nil, -7, 0, api.OK},
		// Not late at the end of the grace, but a minute later; and not before.
		{c, []int{40}, nil, -10, 0, api.OK},
		{c, []int{41}, nil, 0, 0, api.ErrLate},
		{c, []int{29, 12}, nil, 0, 1, api.ErrLate},
		// After an inspection that came early it counts from there, after a late one from when it was due.
		{c, []int{20, 100}, []int{1}, 0, 0, api.OK},
		{c, []int{20, 110}, []int{1}, -10, 0, api.OK},
		{c, []int{20, 111}, []int{1}, 0, 1, api.ErrLate},
		{c, []int{30, 100}, []int{1}, 0, 0, api.OK},
		{c, []int{40, 100}, []int{1}, -10, 0, api.OK},
		{c, []int{40, 101}, []int{1}, 0, 1, api.ErrLate},
		{c, []int{110}, []int{0}, -10, 0, api.OK},
		{c, []int{111}, []int{0}, 0, 0, api.ErrLate},
		// Before the first flight it is due already.
		{api.Care{Every: 10, Grace: 7, Due: -7}, []int{1}, nil, 0, 0, api.ErrLate},
		{api.Care{Every: 10, Grace: 7, Due: -7}, []int{10}, []int{0}, -7, 0, api.OK},
		{api.Care{Every: 10, Grace: 7, Due: -7}, []int{11}, []int{0}, 0, 0, api.ErrLate},
		{api.Care{Every: 100000, Grace: 100000, Due: 100000}, slices.Repeat([]int{10000}, 60), []int{20, 40}, 0, 30, api.ErrLate},
	} {
		left, at, e := crew.Late(x.c, x.flights, x.plan)
		if left != x.left || at != x.at || e != x.e {
			t.Error(i, left, at, e)
		}
	}
}

func TestP8_3Errors(t *testing.T) {
	c, long := care(), slices.Repeat([]int{1}, 61)
	for i, x := range []struct {
		c             api.Care
		flights, plan []int
		want          api.Errno
	}{
		{api.Care{}, long, []int{9, 8}, api.ErrCare},
		{c, append(long, 0), []int{9, 8}, api.ErrMany},
		{api.Care{Every: 9, Due: 999}, long, nil, api.ErrMany},
		{c, []int{41, 0}, []int{9, 8}, api.ErrArg},
		{c, []int{41, 10001}, nil, api.ErrArg},
		{c, []int{41, -1}, nil, api.ErrArg},
		{c, []int{math.MaxInt, math.MaxInt}, nil, api.ErrArg},
		{c, []int{math.MinInt, math.MinInt}, nil, api.ErrArg},
	} {
		if left, at, e := crew.Late(x.c, x.flights, x.plan); left != 0 || at != 0 || e != x.want {
			t.Error(i, left, at, e)
		}
		if plan, e := crew.Inspect(x.c, x.flights); len(plan) > 0 || e != x.want {
			t.Error(i, plan, e)
		}
	}
	for i, plan := range [][]int{{-1}, {5}, {2, 2}, {3, 2}, {0, 1, 2, 3, 4, 5}, {0, 0}, {math.MinInt}, {math.MaxInt}, {4, math.MinInt}} {
		for _, l := range [][]int{flights(), {10000, 1, 1, 1, 1}} {
			if left, at, e := crew.Late(c, l, plan); left != 0 || at != 0 || e != api.ErrArg {
				t.Error(i, left, at, e)
			}
		}
	}
	if left, at, e := crew.Late(c, nil, []int{0}); left != 0 || at != 0 || e != api.ErrArg {
		t.Error(left, at, e)
	}
	if left, at, e := crew.Late(api.Care{Every: 1, Due: 60}, long[:60], nil); left != 0 || at != 0 || e != api.OK {
		t.Error(left, at, e)
	}
}

func TestP8_3Inspect(t *testing.T) {
	c := care()
	for i, x := range []struct {
		c       api.Care
		flights []int
		want    []int
		e       api.Errno
	}{
		{c, flights(), []int{2, 4}, api.OK},
		{c, nil, nil, api.OK},
		{c, []int{40}, nil, api.OK},
		{c, []int{41}, []int{0}, api.OK},
		{c, []int{110}, []int{0}, api.OK},
		{c, []int{111}, nil, api.ErrNone},
		{c, []int{20, 20, 100, 10}, []int{2, 3}, api.OK},
		{c, []int{1, 111}, nil, api.ErrNone},
		// Though one could fly on into the grace, two inspections that come in time are needed for the next flight.
		{api.Care{Every: 100, Grace: 50, Due: 0}, []int{50, 100}, []int{1}, api.OK},
		{api.Care{Every: 100, Grace: 50, Due: 0}, []int{50, 101}, []int{0, 1}, api.OK},
		{api.Care{Every: 100, Grace: 50, Due: 0}, []int{50, 150}, []int{0, 1}, api.OK},
		{api.Care{Every: 100, Grace: 50, Due: 0}, []int{50, 151}, nil, api.ErrNone},
		{api.Care{Every: 100, Grace: 50, Due: 0}, []int{10, 40, 101}, []int{1, 2}, api.OK},
		{api.Care{Every: 10, Grace: 9, Due: -9}, []int{1, 1, 1, 17}, []int{0, 3}, api.OK},
		{api.Care{Every: 10, Grace: 9, Due: -9}, []int{1, 1, 1, 18}, []int{0, 2, 3}, api.OK},
		// An inspection may make it due earlier than it was.
		{api.Care{Every: 1, Due: 20}, []int{10, 10}, nil, api.OK},
		{api.Care{Every: 1, Due: 20}, []int{10, 10, 1}, []int{2}, api.OK},
		{api.Care{Every: 1, Due: 20}, []int{10, 10, 2}, nil, api.ErrNone},
		{api.Care{Every: 10000, Due: 0}, slices.Repeat([]int{10000}, 4), []int{0, 1, 2, 3}, api.OK},
	} {
		if plan, e := crew.Inspect(x.c, x.flights); !slices.Equal(plan, x.want) || e != x.e {
			t.Error(i, plan, e)
		}
	}
}

// lateAt says which flight is late in a plan, or -1, and what is left then: when it is due is found by going through all inspections up to a flight again.
func lateAt(c api.Care, flights, plan []int) (at, left int) {
	flown := func(n int) int {
		sum := 0
		for _, minutes := range flights[:n] {
			sum += minutes
		}
		return sum
	}
	due := func(last int) int {
		n := c.Due
		for _, i := range plan {
			if i <= last {
				n = c.Every + min(n, flown(i))
			}
		}
		return n
	}
	for i := range flights {
		if flown(i+1) > due(i)+c.Grace {
			return i, 0
		}
	}
	return -1, due(len(flights)) - flown(len(flights))
}

// plans returns all plans for some flights.
func plans(flights int) [][]int {
	l := [][]int{nil}
	for i := range flights {
		for _, plan := range l {
			l = append(l, append(plan[:len(plan):len(plan)], i))
		}
	}
	return l
}

func TestP8_3LateAll(t *testing.T) {
	r := rand.New(rand.NewSource(11))
	late := 0
	for range 3000 {
		c, l := someCare(r), someFlights(r, 8)
		all := plans(len(l))
		plan := all[r.Intn(len(all))]
		at, left := lateAt(c, l, plan)
		want := api.OK
		if at >= 0 {
			want = api.ErrLate
			late++
		}
		if gotLeft, gotAt, e := crew.Late(c, l, plan); gotLeft != left || gotAt != max(at, 0) || e != want {
			t.Error(c, l, plan, gotLeft, gotAt, e, left, at)
		}
	}
	if late < 500 || late > 2500 {
		t.Error(late)
	}
}

// No flight is late; no plan with fewer inspections does; of those with as many it is the last one, and leaves no less than any of them.
func TestP8_7Inspect(t *testing.T) {
	r := rand.New(rand.NewSource(12))
	inspections := map[int]int{}
	for range 4000 {
		c, l := someCare(r), someFlights(r, 7)
		got, e := crew.Inspect(c, l)
		if e == api.OK {
			inspections[len(got)]++
		} else {
			inspections[-1]++
		}
		gotAt, gotLeft := lateAt(c, l, got)
		for _, plan := range plans(len(l)) {
			at, left := lateAt(c, l, plan)
			if at >= 0 {
				continue
			}
			if e != api.OK || gotAt >= 0 || len(plan) < len(got) || len(plan) == len(got) && (left > gotLeft || slices.Compare(plan, got) > 0) {
				t.Fatal(c, l, got, e, plan)
			}
		}
		if e != api.OK && (e != api.ErrNone || len(got) > 0) || e == api.OK && gotAt >= 0 {
			t.Error(c, l, got, e)
		}
	}
	for n := -1; n <= 4; n++ {
		if inspections[n] < 50 {
			t.Error(inspections)
		}
	}
}

// R7: all of sixty flights are planned, also where each of them needs an inspection, and where they cannot be.
func TestP8_3Longest(t *testing.T) {
	all := make([]int, 60)
	for i := range all {
		all[i] = i
	}
	l := slices.Repeat([]int{10000}, 60)
	if plan, e := crew.Inspect(api.Care{Every: 10000}, l); !slices.Equal(plan, all) || e != api.OK {
		t.Error(plan, e)
	}
	if plan, e := crew.Inspect(api.Care{Every: 9999}, l); len(plan) > 0 || e != api.ErrNone {
		t.Error(plan, e)
	}
	if plan, e := crew.Inspect(api.Care{Every: 9999, Grace: 60}, l); !slices.Equal(plan, all) || e != api.OK {
		t.Error(plan, e)
	}
	if plan, e := crew.Inspect(api.Care{Every: 9999, Grace: 59}, l); len(plan) > 0 || e != api.ErrNone {
		t.Error(plan, e)
	}
	if plan, e := crew.Inspect(api.Care{Every: 100000, Grace: 100000, Due: 100000}, l); !slices.Equal(plan, []int{20, 30, 40, 50}) || e != api.OK {
		t.Error(plan, e)
	}
}
