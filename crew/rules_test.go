package crew_test

import (
	"math"
	"math/rand"
	"slices"
	"testing"

	"ballonet/api"
	"ballonet/crew"
)

// roomy returns a list with room behind it, in which there is something else.
func roomy[T any](l []T, behind T) []T {
	return append(slices.Clone(l), slices.Repeat([]T{behind}, 5)...)[:len(l)]
}

// watched returns a roomy list, and adds what checks that all of its memory is as it was.
func watched[T comparable](t *testing.T, checks *[]func(), l []T, behind T) []T {
	l = roomy(l, behind)
	before := slices.Clone(l[:cap(l)])
	*checks = append(*checks, func() {
		if !slices.Equal(l[:cap(l)], before) {
			t.Error("changed", before, "to", l[:cap(l)])
		}
	})
	return l
}

// R3: arguments are only read, also what is behind their lists.
func TestP1Untouched(t *testing.T) {
	r := rand.New(rand.NewSource(41))
	for range 500 {
		var checks []func()
		d := kindDuty(r)
		l := watched(t, &checks, someRoster(r, 5), shift(7, 7, 7))
		trips := watched(t, &checks, someTrips(r, 3), trip(7, 7, 7))
		crew.CheckRoster(l)
		crew.Tired(d, l)
		crew.Assign(d, l, 6, trips)

		minutes := watched(t, &checks, someFlights(r, 6), 77)
		all := plans(len(minutes))
		plan := watched(t, &checks, all[r.Intn(len(all))], 77)
		crew.Late(someCare(r), minutes, plan)
		crew.Inspect(someCare(r), minutes)

		o := someStart(r)
		deals := watched(t, &checks, []api.Deal{someDeal(r, o), someDeal(r, o), someDeal(r, o)}, deal(77, 7))
		o.Flights = watched(t, &checks, o.Flights, api.Departure{Seats: 77})
		o.Books = watched(t, &checks, o.Books, api.Booking{Flight: 77})
		crew.Check(o)
		for _, d := range deals {
			crew.Do(o, d)
		}
		crew.Do(o, open(1, 1, o.Now))
		crew.Play(o, deals)
		crew.Play(o, deals[:1])
		crew.Counts(o, 0)
		crew.Purse(o)
		crew.Turn(o, 0)
		for _, check := range checks {
			check()
		}
	}
}

// again checks that a result that is written over, with its room, is not in that of another call.
func again[T comparable](t *testing.T, name string, call func() []T, with T) {
	t.Helper()
	first := call()
	want := slices.Clone(first)
	for i := range first[:cap(first)] {
		first[:cap(first)][i] = with
	}
	if got := call(); !slices.Equal(got, want) || len(want) == 0 {
		t.Error(name, got, "want", want)
	}
}

// R3: results share no memory with arguments, nor with one another, nor with the results of other calls.
func TestP1NewMemory(t *testing.T) {
	l, o := roster(), three()
	again(t, "Tired", func() []api.Tired { l, _ := crew.Tired(limits(), l); return l }, tired(7, 7, 7))
	again(t, "Inspect", func() []int { l, _ := crew.Inspect(care(), flights()); return l }, 77)
	for _, d := range []api.Deal{deal(api.DealTick, 1), open(1, 1, 60), deal(api.DealSell, 0), deal(api.DealCancel, 0), deal(api.DealOff, 0), reseat(0, 3)} {
		again(t, "Do", func() []api.Departure { p, _ := crew.Do(o, d); return p.Flights }, api.Departure{Seats: 77})
		again(t, "Do", func() []api.Booking { p, _ := crew.Do(o, d); return p.Books }, api.Booking{Flight: 77})
		for _, deals := range [][]api.Deal{nil, {d}} {
			again(t, "Play", func() []api.Departure { p, _, _ := crew.Play(o, deals); return p.Flights }, api.Departure{Seats: 77})
			again(t, "Play", func() []api.Booking { p, _, _ := crew.Play(o, deals); return p.Books }, api.Booking{Flight: 77})
		}
	}
	if !slices.Equal(l, roster()) || !isSame(o, three()) {
		t.Error("changed", l, o)
	}
	trips := []api.Trip{trip(0, 10, 2), trip(10, 20, 2), trip(20, 30, 1), trip(30, 40, 2)}
	for i := range trips {
		again(t, "Assign", func() []int { l, _ := crew.Assign(free(), nil, 6, trips[:i+1]); return l[i] }, 77)
	}
	crews, _ := crew.Assign(free(), nil, 6, trips)
	for i, people := range crews {
		for k := range people[:cap(people)] {
			people[:cap(people)][k] = 70 + i
		}
	}
	for i, people := range crews {
		if len(people) != trips[i].Crew || slices.ContainsFunc(people, func(who int) bool { return who != 70+i }) {
			t.Error(crews)
		}
	}
}

// R4: lists that are nil and lists that are empty are the same.
func TestP1Empty(t *testing.T) {
	for _, l := range [][]api.Shift{nil, {}, make([]api.Shift, 0, 9)} {
		if cases, e := crew.Tired(limits(), l); len(cases) > 0 || e != api.OK || crew.CheckRoster(l) != api.OK {
			t.Error(cases, e)
		}
		for _, trips := range [][]api.Trip{nil, {}, make([]api.Trip, 0, 9)} {
			if crews, e := crew.Assign(limits(), l, 6, trips); len(crews) > 0 || e != api.OK {
				t.Error(crews, e)
			}
		}
	}
	for _, l := range [][]int{nil, {}, make([]int, 0, 9)} {
		if plan, e := crew.Inspect(care(), l); len(plan) > 0 || e != api.OK {
			t.Error(plan, e)
		}
		if left, at, e := crew.Late(care(), l, l); left != 30 || at != 0 || e != api.OK {
			t.Error(left, at, e)
		}
		if left, at, e := crew.Late(care(), []int{20}, l); left != 10 || at != 0 || e != api.OK {
			t.Error(left, at, e)
		}
	}
	for _, o := range []api.Office{{}, {Flights: []api.Departure{}, Books: []api.Booking{}}} {
		for _, l := range [][]api.Deal{nil, {}, make([]api.Deal, 0, 9)} {
			if p, at, e := crew.Play(o, l); !isNoOffice(p) || at != 0 || e != api.OK {
				t.Error(p, at, e)
			}
		}
		if p, e := crew.Do(o, deal(api.DealTick, 5)); !isSame(p, api.Office{Now: 5}) || e != api.OK {
			t.Error(p, e)
		}
	}
}

// wild returns any number, most often one at which something overflows or ends.
func wild(r *rand.Rand) int {
	base := []int{0, 0, 1, 6, 10, 40, 50, 60, 100, 120, api.MaxMinute, api.MaxDuty, api.MaxTime, 1 << 31, 1 << 32, 1 << 62, math.MaxInt, math.MinInt}
	n := base[r.Intn(len(base))] + r.Intn(3) - 1
	if r.Intn(2) == 0 {
		return -n
	}
	return n
}

// wildOne puts something wild into one of some numbers, now and then.
func wildOne(r *rand.Rand, n ...*int) {
	if r.Intn(8) == 0 {
		*n[r.Intn(len(n))] = wild(r)
	}
}

// wildLength makes a list much longer, now and then.
func wildLength[T any](r *rand.Rand, l []T) []T {
	if len(l) == 0 || r.Intn(20) > 0 {
		return l
	}
	return slices.Repeat(l, 1+r.Intn(60))
}

// checker notes what is not as it has to be: what is returned is valid, and nothing is beside an error.
type checker struct {
	t   *testing.T
	oks map[string]int
}

func (c checker) check(name string, e api.Errno, valid, zero bool) {
	c.t.Helper()
	if e == api.OK {
		c.oks[name]++
	}
	if e == api.OK && !valid || e != api.OK && !zero {
		c.t.Error(name, e, valid, zero)
	}
}

// R2, R5, R6 and R7: whatever the arguments are, every call ends without a panic; what it returns is valid; and nothing is beside an error.
func TestP1Wild(t *testing.T) {
	r := rand.New(rand.NewSource(42))
	k := checker{t, map[string]int{}}
	for range 6000 {
		k.wildPeople(r)
		k.wildCare(r)
		k.wildOffice(r)
	}
	for _, name := range []string{"Tired", "Assign", "Late", "Inspect", "Do", "Play", "Counts", "Purse", "Turn"} {
		if k.oks[name] < 200 {
			t.Error("hardly anything is valid:", k.oks)
		}
	}
}

func (k checker) wildPeople(r *rand.Rand) {
	d, l, trips, members := kindDuty(r), someRoster(r, 4), someTrips(r, 3), r.Intn(7)
	wildOne(r, &d.Most, &d.Rest, &d.Window, &d.Sum)
	wildOne(r, &members)
	if len(l) > 0 {
		s := &l[r.Intn(len(l))]
		wildOne(r, &s.Who, &s.From, &s.To)
	}
	if len(trips) > 0 {
		s := &trips[r.Intn(len(trips))]
		wildOne(r, &s.From, &s.To, &s.Crew)
	}
	l, trips = wildLength(r, l), wildLength(r, trips)
	isValid := crew.CheckDuty(d) == api.OK && crew.CheckRoster(l) == api.OK
	cases, e := crew.Tired(d, l)
	k.check("Tired", e, isValid && len(cases) <= 3*len(l), !isValid && len(cases) == 0)
	crews, e := crew.Assign(d, l, members, trips)
	k.check("Assign", e, isValid && len(cases) == 0 && len(crews) == len(trips), len(crews) == 0)
}

func (k checker) wildCare(r *rand.Rand) {
	c, l := someCare(r), someFlights(r, 7)
	all := plans(len(l))
	plan := all[r.Intn(len(all))]
	wildOne(r, &c.Every, &c.Grace, &c.Due)
	if len(l) > 0 {
		wildOne(r, &l[r.Intn(len(l))])
	}
	if len(plan) > 0 {
		wildOne(r, &plan[r.Intn(len(plan))])
	}
	l, plan = wildLength(r, l), wildLength(r, plan)
	left, at, e := crew.Late(c, l, plan)
	isAt := at == 0 || e == api.ErrLate && at < len(l)
	k.check("Late", e, crew.CheckCare(c) == api.OK && at == 0, left == 0 && isAt)
	plan, e = crew.Inspect(c, l)
	_, _, isLate := crew.Late(c, l, plan)
	k.check("Inspect", e, isLate == api.OK, len(plan) == 0)
}

func (k checker) wildOffice(r *rand.Rand) {
	o := someStart(r)
	l := make([]api.Deal, r.Intn(4))
	for i := range l {
		l[i] = someDeal(r, o)
		wildOne(r, &l[i].N, &l[i].Seats, &l[i].Price, &l[i].Leaves)
	}
	wildOne(r, &o.Now, &o.Notice, &o.Fee, &o.In, &o.Out)
	if len(o.Flights) > 0 {
		f := &o.Flights[r.Intn(len(o.Flights))]
		wildOne(r, &f.Seats, &f.Price, &f.Leaves)
	}
	if len(o.Books) > 0 {
		b := &o.Books[r.Intn(len(o.Books))]
		wildOne(r, &b.Flight, &b.Kept)
	}
	o.Flights, o.Books, l = wildLength(r, o.Flights), wildLength(r, o.Books), wildLength(r, l)
	for _, d := range l {
		p, e := crew.Do(o, d)
		k.check("Do", e, crew.Check(p) == api.OK, isNoOffice(p))
	}
	p, at, e := crew.Play(o, l)
	k.check("Play", e, crew.Check(p) == api.OK && at == 0, isNoOffice(p) && (at == 0 || at < len(l)))
	n := r.Intn(4)
	wildOne(r, &n)
	seated, waiting, flown, back, e := crew.Counts(o, n)
	k.check("Counts", e, n < len(o.Flights), max(seated, waiting, flown, back) == 0)
	held, earned, kept, paid, e := crew.Purse(o)
	k.check("Purse", e, held+earned+kept+paid == o.In, max(held, earned, kept, paid) == 0)
	turn, e := crew.Turn(o, n)
	k.check("Turn", e, 0 <= turn && turn <= len(o.Books), turn == 0)
}

// R5: numbers of any size lead to the error that is named for them, also beside others that would make up for them.
func TestP1Sizes(t *testing.T) {
	if cases, e := crew.Tired(limits(), make([]api.Shift, 100000)); len(cases) > 0 || e != api.ErrMany {
		t.Error(cases, e)
	}
	if crews, e := crew.Assign(limits(), nil, 6, make([]api.Trip, 100000)); len(crews) > 0 || e != api.ErrMany {
		t.Error(crews, e)
	}
	if left, at, e := crew.Late(care(), flights(), make([]int, 100000)); left != 0 || at != 0 || e != api.ErrArg {
		t.Error(left, at, e)
	}
	if plan, e := crew.Inspect(care(), make([]int, 100000)); len(plan) > 0 || e != api.ErrMany {
		t.Error(plan, e)
	}
	for i, o := range []api.Office{
		{Flights: make([]api.Departure, 100000)},
		{Flights: make([]api.Departure, 1), Books: make([]api.Booking, 100000)},
		{Fee: 100, Flights: []api.Departure{{Price: math.MaxInt}}, Books: []api.Booking{back(0), back(0)}, In: -2, Out: -2},
		{Fee: 100, Flights: []api.Departure{{Price: math.MinInt}}, Books: []api.Booking{back(0), back(0)}},
		{Fee: math.MaxInt, Flights: []api.Departure{{Price: 2}}, Books: []api.Booking{back(math.MaxInt)}},
		{Flights: []api.Departure{{}}, Books: []api.Booking{back(math.MinInt), back(math.MinInt)}},
		{In: math.MinInt, Out: math.MinInt},
	} {
		isError(t, i, o, api.ErrOffice)
	}
}
