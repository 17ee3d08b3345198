package crew_test

import (
	"math"
	"math/rand"
	"slices"
	"testing"

	"ballonet/api"
	"ballonet/crew"
)

func isSameLists(a, b [][]int) bool { return slices.EqualFunc(a, b, slices.Equal[[]int]) }

func TestP8_2Assign(t *testing.T) {
	d := limits()
	two := []api.Trip{trip(2000, 2300, 1), trip(2200, 2400, 2)}
	for i, x := range []struct {
		d       api.Duty
		l       []api.Shift
		members int
		trips   []api.Trip
		want    [][]int
		e       api.Errno
	}{
		{d, roster(), 3, two, nil, api.ErrNone},
		{d, nil, 3, two, [][]int{{0}, {1, 2}}, api.OK},
		{d, nil, 2, two, nil, api.ErrNone},
		// Who has no turn need not be a member, but has to be rested.
		{d, roster(), 3, nil, nil, api.ErrNone},
		{d, []api.Shift{shift(5, 0, 601)}, 3, two, nil, api.ErrNone},
		{d, []api.Shift{shift(5, 0, 600)}, 3, two, [][]int{{0}, {1, 2}}, api.OK},
		{d, nil, 0, nil, nil, api.OK},
		{d, nil, 0, []api.Trip{trip(0, 1, 0), trip(0, 1, 0)}, [][]int{nil, nil}, api.OK},
		{d, nil, 0, []api.Trip{trip(0, 1, 1)}, nil, api.ErrNone},
		{d, nil, 1, []api.Trip{trip(0, 1, 2)}, nil, api.ErrNone},
		{d, nil, 2, []api.Trip{trip(0, 1, 2)}, [][]int{{0, 1}}, api.OK},
		{d, nil, 6, []api.Trip{trip(0, 1, 2), trip(0, 1, 2), trip(0, 1, 2)}, [][]int{{0, 1}, {2, 3}, {4, 5}}, api.OK},
		{d, nil, 6, []api.Trip{trip(0, 1, 2), trip(0, 1, 2), trip(0, 1, 2), trip(0, 1, 1)}, nil, api.ErrNone},
		// A trip is on the roster like a shift: too long, too soon, at once, or too much.
		{d, nil, 1, []api.Trip{trip(0, 600, 1)}, [][]int{{0}}, api.OK},
		{d, nil, 6, []api.Trip{trip(0, 601, 1)}, nil, api.ErrNone},
		{d, nil, 6, []api.Trip{trip(0, 601, 0)}, [][]int{nil}, api.OK},
		{d, nil, 6, []api.Trip{trip(0, 100, 1), trip(599, 700, 1)}, [][]int{{0}, {1}}, api.OK},
		{d, nil, 6, []api.Trip{trip(0, 100, 1), trip(600, 700, 1)}, [][]int{{0}, {0}}, api.OK},
		{d, []api.Shift{shift(0, 700, 800)}, 6, []api.Trip{trip(0, 300, 1)}, [][]int{{1}}, api.OK},
		{d, []api.Shift{shift(0, 700, 800), shift(1, 100, 110)}, 6, []api.Trip{trip(0, 300, 2)}, [][]int{{2, 3}}, api.OK},
		{d, []api.Shift{shift(0, 2000, 2600)}, 6, []api.Trip{trip(900, 1400, 1)}, [][]int{{1}}, api.OK},
		{d, []api.Shift{shift(0, 2000, 2600)}, 6, []api.Trip{trip(900, 1300, 1)}, [][]int{{0}}, api.OK},
		// The first trip's people are chosen first; but they go elsewhere where they have to.
		{d, []api.Shift{shift(1, 0, 600)}, 2, []api.Trip{trip(5000, 5600, 1), trip(600, 700, 1), trip(5000, 5600, 1)}, [][]int{{0}, {0}, {1}}, api.OK},
		{d, []api.Shift{shift(1, 0, 600)}, 2, []api.Trip{trip(1200, 1600, 1), trip(600, 700, 1)}, [][]int{{0}, {0}}, api.OK},
		{d, []api.Shift{shift(1, 0, 600)}, 2, []api.Trip{trip(1199, 1500, 1), trip(600, 700, 1)}, [][]int{{1}, {0}}, api.OK},
		{free(), many(40), 1, []api.Trip{trip(40, 41, 1), trip(41, 42, 1), trip(42, 43, 1), trip(43, 44, 1)}, [][]int{{0}, {0}, {0}, {0}}, api.OK},
		{free(), many(40), 1, []api.Trip{trip(39, 41, 1)}, nil, api.ErrNone},
	} {
		got, e := crew.Assign(x.d, x.l, x.members, x.trips)
		if !isSameLists(got, x.want) || e != x.e {
			t.Error(i, got, e)
		}
	}
}

func TestP8_2Errors(t *testing.T) {
	d := limits()
	five := slices.Repeat([]api.Trip{trip(0, 1, 0)}, 5)
	for i, x := range []struct {
		d       api.Duty
		l       []api.Shift
		members int
		trips   []api.Trip
		want    api.Errno
	}{
		{api.Duty{}, many(41), 7, five, api.ErrDuty},
		{d, append(many(40), shift(9, 0, 0)), 7, five, api.ErrMany},
		{d, []api.Shift{shift(0, 0, 0)}, 7, five, api.ErrRoster},
		{d, roster(), 7, five, api.ErrArg},
		{d, roster(), -1, five, api.ErrArg},
		{d, roster(), math.MinInt, five, api.ErrArg},
		{d, roster(), 6, append(five, trip(0, 0, 9)), api.ErrMany},
		{d, nil, 6, five, api.ErrMany},
		{d, roster(), 6, five[:4], api.ErrNone},
		{d, nil, 6, five[:4], api.OK},
		{d, roster(), 6, []api.Trip{trip(0, 1, 0), trip(-1, 1, 0)}, api.ErrArg},
		{d, roster(), 6, []api.Trip{trip(1, 1, 0)}, api.ErrArg},
		{d, roster(), 6, []api.Trip{trip(2, 1, 0)}, api.ErrArg},
		{d, roster(), 6, []api.Trip{trip(0, 1000001, 0)}, api.ErrArg},
		{d, roster(), 6, []api.Trip{trip(0, 1, -1)}, api.ErrArg},
		{d, roster(), 6, []api.Trip{trip(0, 1, 3)}, api.ErrArg},
		{d, nil, 0, []api.Trip{trip(0, 1000000, 0)}, api.OK},
		{d, nil, 0, []api.Trip{trip(0, 1000000, 2)}, api.ErrNone},
		{d, nil, 6, []api.Trip{trip(math.MinInt, math.MaxInt, 1)}, api.ErrArg},
	} {
		if got, e := crew.Assign(x.d, x.l, x.members, x.trips); e != x.want || e != api.OK && len(got) > 0 {
			t.Error(i, got, e)
		}
	}
}

// peopleFor returns all lists of people that a trip may have, in order.
func peopleFor(n, members int) [][]int {
	if n == 0 {
		return [][]int{nil}
	}
	var l [][]int
	for a := range members {
		if n == 1 {
			l = append(l, []int{a})
		}
		for b := a + 1; b < members && n == 2; b++ {
			l = append(l, []int{a, b})
		}
	}
	return l
}

// allCrews returns all lists of lists for some trips, in order.
func allCrews(trips []api.Trip, members int) [][][]int {
	all := [][][]int{nil}
	for _, t := range trips {
		var longer [][][]int
		for _, crews := range all {
			for _, people := range peopleFor(t.Crew, members) {
				longer = append(longer, append(crews[:len(crews):len(crews)], people))
			}
		}
		all = longer
	}
	return all
}

// withTrips returns a roster with a shift for each person on a trip.
func withTrips(l []api.Shift, trips []api.Trip, crews [][]int) []api.Shift {
	l = slices.Clone(l)
	for i, people := range crews {
		for _, who := range people {
			l = append(l, shift(who, trips[i].From, trips[i].To))
		}
	}
	return l
}

// All lists of lists are tried, in order.
func TestP8_2AssignAll(t *testing.T) {
	r := rand.New(rand.NewSource(5))
	found, turned := 0, 0
	for range 6000 {
		d, l, members, trips := kindDuty(r), someRoster(r, 3), r.Intn(5), someTrips(r, 3)
		if r.Intn(2) == 0 {
			d.Rest = 0
		}
		var want [][]int
		isOne := false
		all := allCrews(trips, members)
		for i, crews := range all {
			together := withTrips(l, trips, crews)
			if isRoster(together) && len(allTired(d, together)) == 0 {
				want, isOne = crews, true
				if i > 0 {
					turned++
				}
				break
			}
		}
		got, e := crew.Assign(d, l, members, trips)
		if isOne != (e == api.OK) || !isOne && e != api.ErrNone || !isSameLists(got, want) {
			t.Error(d, l, members, trips, got, e, want)
		}
		if isOne {
			found++
		}
	}
	if found < 300 || turned < 100 {
		t.Error(found, turned)
	}
}

// People who are assigned are not tired, and nobody else is.
func TestP8_6Assigned(t *testing.T) {
	r := rand.New(rand.NewSource(6))
	found := 0
	for range 2000 {
		d, l, members, trips := kindDuty(r), someRoster(r, 6), r.Intn(7), someTrips(r, 4)
		crews, e := crew.Assign(d, l, members, trips)
		if e != api.OK {
			continue
		}
		if len(crews) != len(trips) {
			t.Fatal(crews, trips)
		}
		found++
		cases, e := crew.Tired(d, withTrips(l, trips, crews))
		if len(cases) > 0 || e != api.OK {
			t.Error(d, l, trips, crews, cases, e)
		}
		for i, people := range crews {
			if len(people) != trips[i].Crew || !slices.IsSorted(people) || slices.ContainsFunc(people, func(who int) bool { return who < 0 || who >= members }) {
				t.Error(trips, crews)
			}
		}
	}
	if found < 300 {
		t.Error(found)
	}
}

// R7: the longest search ends soon, also where nothing is found.
func TestP8_2Longest(t *testing.T) {
	var l []api.Shift
	for i := range 40 {
		l = append(l, shift(i%6, 100000+10*i, 100001+10*i))
	}
	trips := []api.Trip{trip(0, 10, 2), trip(20, 30, 2), trip(40, 50, 2), trip(100000, 110000, 1)}
	if got, e := crew.Assign(free(), l, 6, trips); len(got) > 0 || e != api.ErrNone {
		t.Error(got, e)
	}
}
