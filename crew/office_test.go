package crew_test

import (
	"math"
	"math/rand"
	"slices"
	"testing"

	"ballonet/api"
	"ballonet/crew"
)

// three is an office with a departure of each state: two seats are sold of the first one and one guest waits; of the second one one booking was flown; the third one was called off.
func three() api.Office {
	return api.Office{
		Now: 50, Notice: 60, Fee: 25,
		Flights: []api.Departure{{Seats: 2, Price: 400, Leaves: 100}, {Seats: 3, Price: 99, Leaves: 40, State: api.GateGone}, {Seats: 1, Price: 7, Leaves: 90, State: api.GateOff}},
		Books: []api.Booking{
			{Flight: 0, State: api.BookSeat}, {Flight: 1, State: api.BookFlown}, {Flight: 0, State: api.BookBack, Kept: 100}, {Flight: 0, State: api.BookSeat},
			{Flight: 2, State: api.BookBack, Kept: 1}, {Flight: 0, State: api.BookWait}, {Flight: 1, State: api.BookBack, Kept: 24}, {Flight: 0, State: api.BookWait},
		},
		In: 5*400 + 2*99 + 7, Out: 300 + 75 + 6,
	}
}

// balanced returns an office with the In and the Out that its bookings ask for.
func balanced(o api.Office) api.Office {
	o.In, o.Out = 0, 0
	for _, b := range o.Books {
		price := o.Flights[b.Flight].Price
		o.In += price
		if b.State == api.BookBack {
			o.Out += price - b.Kept
		}
	}
	return o
}

func TestP8_4Check(t *testing.T) {
	for i, change := range []func(o *api.Office){
		func(o *api.Office) {},
		func(o *api.Office) { *o = api.Office{} },
		func(o *api.Office) { o.Now, o.Notice = 1000000, 1000000 },
		func(o *api.Office) { o.Now, o.Notice = 0, 0 },
		func(o *api.Office) { o.Fee = 100 },
		func(o *api.Office) { o.Flights[0].Leaves = 0 },
		func(o *api.Office) { o.Flights[1].Leaves = 1000000 },
		func(o *api.Office) { o.Flights[2].Seats = 0 },
		func(o *api.Office) { o.Flights[2].Seats = 50 },
		func(o *api.Office) { o.Flights[1].Seats = 1 },
		func(o *api.Office) { o.Flights[0].Price = 1000000; *o = balanced(*o) },
		func(o *api.Office) { o.Books[2].Kept = 0; *o = balanced(*o) },
		func(o *api.Office) { o.Books[2].Kept = 99; *o = balanced(*o) },
		func(o *api.Office) { o.Books[5].State = api.BookBack; *o = balanced(*o) },
		func(o *api.Office) { o.Books[0].State = api.BookBack; o.Flights[0].Seats = 1; *o = balanced(*o) },
		func(o *api.Office) { o.Flights = append(o.Flights, make([]api.Departure, 7)...) },
		func(o *api.Office) {
			o.Books = append(o.Books, slices.Repeat([]api.Booking{{State: api.BookWait}}, 112)...)
			*o = balanced(*o)
		},
	} {
		o := three()
		change(&o)
		if e := crew.Check(o); e != api.OK {
			t.Error(i, e)
		}
	}
}

func TestP8_4CheckOffice(t *testing.T) {
	areErrors(t, []func(o *api.Office){
		func(o *api.Office) { o.Now = -1 },
		func(o *api.Office) { o.Now = 1000001 },
		func(o *api.Office) { o.Notice = -1 },
		func(o *api.Office) { o.Notice = 1000001 },
		func(o *api.Office) { o.Fee = -1 },
		func(o *api.Office) { o.Fee = 101 },
		func(o *api.Office) { *o = api.Office{Fee: -1} },
		func(o *api.Office) { o.Flights = append(o.Flights, make([]api.Departure, 8)...) },
		func(o *api.Office) { o.Flights[2].Seats = -1 },
		func(o *api.Office) { o.Flights[2].Seats = 51 },
		func(o *api.Office) { o.Flights[0].Price = 1000001; *o = balanced(*o) },
		func(o *api.Office) { o.Flights = append(o.Flights, api.Departure{Price: -1}) },
		func(o *api.Office) { o.Flights[0].Leaves = -1 },
		func(o *api.Office) { o.Flights[0].Leaves = 1000001 },
		func(o *api.Office) { o.Flights = append(o.Flights, api.Departure{State: 3}) },
		func(o *api.Office) {
			o.Books = append(o.Books, slices.Repeat([]api.Booking{{State: api.BookWait}}, 113)...)
			*o = balanced(*o)
		},
		func(o *api.Office) { o.Books[0].Flight = -1 },
		func(o *api.Office) { o.Books[0].Flight = 3 },
		func(o *api.Office) { o.Flights = nil },
	})
}

func TestP8_4CheckBooks(t *testing.T) {
	areErrors(t, []func(o *api.Office){
		// A state that is none at its departure's gate.
		func(o *api.Office) { o.Books[5].State = 0 },
		func(o *api.Office) { o.Books[5].State = 5 },
		func(o *api.Office) { o.Books[0].State = api.BookFlown },
		func(o *api.Office) { o.Books[1].State = api.BookSeat },
		func(o *api.Office) {
			o.Flights[1].Seats = 1
			o.Books[6] = api.Booking{Flight: 1, State: api.BookWait}
			*o = balanced(*o)
		},
		func(o *api.Office) { o.Books[4] = api.Booking{Flight: 2, State: api.BookSeat}; *o = balanced(*o) },
		func(o *api.Office) {
			o.Flights[2].Seats = 0
			o.Books[4] = api.Booking{Flight: 2, State: api.BookWait}
			*o = balanced(*o)
		},
		func(o *api.Office) { o.Books[4] = api.Booking{Flight: 2, State: api.BookFlown}; *o = balanced(*o) },
		// More than the fee is kept, or less than nothing, or of a booking that is not back.
		func(o *api.Office) { o.Books[2].Kept = 101; *o = balanced(*o) },
		func(o *api.Office) { o.Books[2].Kept = -1; *o = balanced(*o) },
		func(o *api.Office) { o.Books[6].Kept = 25; *o = balanced(*o) },
		func(o *api.Office) { o.Books[4].Kept = 2; *o = balanced(*o) },
		func(o *api.Office) { o.Books[0].Kept = 1 },
		func(o *api.Office) { o.Books[1].Kept = 1 },
		func(o *api.Office) { o.Books[5].Kept = 1 },
		func(o *api.Office) { o.Fee = 24 },
		// More seats than there are, or a free one while one waits.
		func(o *api.Office) { o.Flights[0].Seats = 1 },
		func(o *api.Office) { o.Flights[1].Seats = 0 },
		func(o *api.Office) { o.Flights[0].Seats = 3 },
		func(o *api.Office) { o.Books[0].State = api.BookBack; *o = balanced(*o) },
		// Money that is not what the bookings say.
		func(o *api.Office) { o.In++ },
		func(o *api.Office) { o.In-- },
		func(o *api.Office) { o.Out++ },
		func(o *api.Office) { o.Out-- },
		func(o *api.Office) { o.In++; o.Out++ },
		func(o *api.Office) { o.In, o.Out = math.MinInt, math.MaxInt },
		func(o *api.Office) { o.Books[2].Kept--; o.Out = 0 },
	})
}

// areErrors checks that no office is valid after one of some changes.
func areErrors(t *testing.T, changes []func(o *api.Office)) {
	t.Helper()
	for i, change := range changes {
		o := three()
		change(&o)
		isError(t, i, o, api.ErrOffice)
	}
}

// isError checks that all functions with offices return an error of the office first.
func isError(t *testing.T, i int, o api.Office, want api.Errno) {
	t.Helper()
	e := crew.Check(o)
	p, doE := crew.Do(o, deal(0, -1))
	q, at, playE := crew.Play(o, make([]api.Deal, 201))
	seated, waiting, flown, back, countsE := crew.Counts(o, -1)
	held, earned, kept, paid, purseE := crew.Purse(o)
	turn, turnE := crew.Turn(o, -1)
	for _, got := range []api.Errno{e, doE, playE, countsE, purseE, turnE} {
		if got != want {
			t.Error(i, e, doE, playE, countsE, purseE, turnE)
		}
	}
	if !isNoOffice(p) || !isNoOffice(q) || at != 0 || seated+waiting+flown+back != 0 || held+earned+kept+paid != 0 || turn != 0 {
		t.Error(i, p, q, at, seated, waiting, flown, back, held, earned, kept, paid, turn)
	}
}

// isOffice says whether an office is valid: each rule is asked by itself.
func isOffice(o api.Office) bool {
	is := 0 <= o.Now && o.Now <= 1000000 && 0 <= o.Notice && o.Notice <= 1000000 && 0 <= o.Fee && o.Fee <= 100 && len(o.Flights) <= 10 && len(o.Books) <= 120
	for _, f := range o.Flights {
		is = is && 0 <= f.Seats && f.Seats <= 50 && 0 <= f.Price && f.Price <= 1000000 && 0 <= f.Leaves && f.Leaves <= 1000000 && f.State < 3
	}
	in, out := 0, 0
	seats, waits := map[int]int{}, map[int]int{}
	states := map[[2]uint8]bool{{0, 1}: true, {0, 2}: true, {0, 4}: true, {1, 3}: true, {1, 4}: true, {2, 4}: true}
	for _, b := range o.Books {
		if !is || b.Flight < 0 || b.Flight >= len(o.Flights) {
			return false
		}
		f := o.Flights[b.Flight]
		is = states[[2]uint8{f.State, b.State}]
		in += f.Price
		switch b.State {
		case 4:
			out += f.Price - b.Kept
			is = is && b.Kept >= 0 && 100*b.Kept <= f.Price*o.Fee
		case 2:
			waits[b.Flight]++
			is = is && b.Kept == 0
		default:
			seats[b.Flight]++
			is = is && b.Kept == 0
		}
	}
	for i, f := range o.Flights {
		is = is && seats[i] <= f.Seats && (seats[i] == f.Seats || waits[i] == 0)
	}
	return is && in == o.In && out == o.Out
}

// spoil changes one number of an office by a little.
func spoil(r *rand.Rand, o api.Office) api.Office {
	n := []*int{&o.Now, &o.Notice, &o.Fee, &o.In, &o.Out}
	var states []*uint8
	for i := range o.Flights {
		f := &o.Flights[i]
		n = append(n, &f.Seats, &f.Price, &f.Leaves)
		states = append(states, &f.State)
	}
	for i := range o.Books {
		b := &o.Books[i]
		n = append(n, &b.Flight, &b.Kept)
		states = append(states, &b.State)
	}
	if len(states) > 0 && r.Intn(2) == 0 {
		*states[r.Intn(len(states))] = uint8(r.Intn(6))
	} else {
		*n[r.Intn(len(n))] += r.Intn(3) - 1
	}
	return o
}

func TestP8_4CheckAll(t *testing.T) {
	r := rand.New(rand.NewSource(21))
	oks := 0
	for range 6000 {
		o := madeOffice(r)
		if crew.Check(o) != api.OK {
			t.Fatal(o)
		}
		o = spoil(r, o)
		if inRange := !slices.ContainsFunc(o.Books, func(b api.Booking) bool { return b.Flight < 0 || b.Flight >= len(o.Flights) }); inRange && r.Intn(2) == 0 {
			o = balanced(o)
		}
		is := crew.Check(o) == api.OK
		if is != isOffice(o) {
			t.Error(o, is)
		}
		if is {
			oks++
		}
	}
	if oks < 1000 || oks > 5000 {
		t.Error(oks)
	}
}

func TestP8_5Counts(t *testing.T) {
	for i, x := range []struct {
		flight int
		want   [4]int
		e      api.Errno
	}{
		{0, [4]int{2, 2, 0, 1}, api.OK},
		{1, [4]int{0, 0, 1, 1}, api.OK},
		{2, [4]int{0, 0, 0, 1}, api.OK},
		{3, [4]int{}, api.ErrArg},
		{-1, [4]int{}, api.ErrArg},
		{math.MaxInt, [4]int{}, api.ErrArg},
		{math.MinInt, [4]int{}, api.ErrArg},
	} {
		seated, waiting, flown, back, e := crew.Counts(three(), x.flight)
		if got := [4]int{seated, waiting, flown, back}; got != x.want || e != x.e {
			t.Error(i, got, e)
		}
	}
	if _, _, _, _, e := crew.Counts(api.Office{}, 0); e != api.ErrArg {
		t.Error(e)
	}
}

func TestP8_5Purse(t *testing.T) {
	held, earned, kept, back, e := crew.Purse(three())
	if held != 1600 || earned != 99 || kept != 125 || back != 381 || e != api.OK {
		t.Error(held, earned, kept, back, e)
	}
	held, earned, kept, back, e = crew.Purse(api.Office{Now: 5})
	if held != 0 || earned != 0 || kept != 0 || back != 0 || e != api.OK {
		t.Error(held, earned, kept, back, e)
	}
	most := api.Office{Flights: []api.Departure{{Price: api.MaxPrice}}, Books: slices.Repeat([]api.Booking{{State: api.BookWait}}, 120), In: 120000000}
	held, earned, kept, back, e = crew.Purse(most)
	if held != 120000000 || earned != 0 || kept != 0 || back != 0 || e != api.OK {
		t.Error(held, earned, kept, back, e)
	}
}

func TestP8_5Turn(t *testing.T) {
	o := three()
	o.Books = append(o.Books, api.Booking{Flight: 3, State: api.BookWait}, api.Booking{Flight: 0, State: api.BookWait})
	o.Flights = append(o.Flights, api.Departure{Price: 5})
	o = balanced(o)
	for i, x := range []struct {
		booking, want int
		e             api.Errno
	}{
		{0, 0, api.OK}, {3, 0, api.OK}, {5, 1, api.OK}, {7, 2, api.OK}, {8, 1, api.OK}, {9, 3, api.OK},
		{1, 0, api.ErrGone}, {2, 0, api.ErrGone}, {4, 0, api.ErrGone}, {6, 0, api.ErrGone},
		{10, 0, api.ErrArg}, {-1, 0, api.ErrArg}, {math.MaxInt, 0, api.ErrArg}, {math.MinInt, 0, api.ErrArg},
	} {
		if got, e := crew.Turn(o, x.booking); got != x.want || e != x.e {
			t.Error(i, got, e)
		}
	}
	if got, e := crew.Turn(api.Office{}, 0); got != 0 || e != api.ErrArg {
		t.Error(got, e)
	}
}

// All bookings are counted, and all prices are added, one by one.
func TestP8_5All(t *testing.T) {
	r := rand.New(rand.NewSource(22))
	turns := 0
	for range 3000 {
		o := madeOffice(r)
		var want [5]int
		counts := map[int]*[5]int{}
		for i := range o.Flights {
			counts[i] = &[5]int{}
		}
		for i, b := range o.Books {
			n := counts[b.Flight]
			n[b.State]++
			want[b.State] += o.Flights[b.Flight].Price - b.Kept
			want[0] += b.Kept
			turn, e := crew.Turn(o, i)
			isIn := b.State == api.BookSeat || b.State == api.BookWait
			if isIn != (e == api.OK) || !isIn && e != api.ErrGone || b.State != api.BookWait && turn != 0 || b.State == api.BookWait && turn != n[b.State] {
				t.Error(o, i, turn, e)
			}
			turns += turn
		}
		for i, n := range counts {
			seated, waiting, flown, back, e := crew.Counts(o, i)
			if got := [5]int{0, seated, waiting, flown, back}; got != *n || e != api.OK {
				t.Error(o, i, got, e)
			}
		}
		held, earned, kept, back, e := crew.Purse(o)
		if held != want[1]+want[2] || earned != want[3] || kept != want[0] || back != want[4] || e != api.OK {
			t.Error(o, held, earned, kept, back, e)
		}
	}
	if turns < 1000 {
		t.Error(turns)
	}
}
