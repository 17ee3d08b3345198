package crew_test

import (
	"math/rand"
	"slices"
	"testing"

	"ballonet/api"
	"ballonet/crew"
)

// What tests use to tell shifts, flights and offices, and to make up some of them: small ones, so that much is equal, and much is just at a limit.

func shift(who, from, to int) api.Shift { return api.Shift{Who: who, From: from, To: to} }

func trip(from, to, crew int) api.Trip { return api.Trip{From: from, To: to, Crew: crew} }

func tired(kind, who, at int) api.Tired { return api.Tired{Kind: kind, Who: who, At: at} }

// limits are the limits of the chapter's examples.
func limits() api.Duty { return api.Duty{Most: 600, Rest: 500, Window: 2000, Sum: 1000} }

// free are limits that no shift of less than 100000 minutes breaks alone.
func free() api.Duty {
	return api.Duty{Most: api.MaxDuty, Window: api.MaxDuty, Sum: api.MaxDuty}
}

// roster is the roster of the chapter's examples.
func roster() []api.Shift {
	return []api.Shift{shift(0, 0, 600), shift(0, 1000, 1500), shift(0, 2100, 2200)}
}

// care is the care of the chapter's examples.
func care() api.Care { return api.Care{Every: 100, Grace: 10, Due: 30} }

func flights() []int { return []int{20, 15, 60, 45, 30} }

func someDuty(r *rand.Rand) api.Duty {
	d := api.Duty{Most: 1 + r.Intn(8), Rest: r.Intn(6), Window: 1 + r.Intn(20)}
	d.Sum = r.Intn(d.Window + 1)
	return d
}

// kindDuty returns limits that many small rosters keep.
func kindDuty(r *rand.Rand) api.Duty {
	d := api.Duty{Most: 3 + r.Intn(6), Rest: r.Intn(3), Window: 4 + r.Intn(20)}
	d.Sum = d.Window/2 + r.Intn(d.Window-d.Window/2+1)
	return d
}

// someShifts returns shifts that may be a roster or not.
func someShifts(r *rand.Rand, most int) []api.Shift {
	l := make([]api.Shift, r.Intn(most+1))
	for i := range l {
		from := r.Intn(30)
		l[i] = shift(r.Intn(3), from, from+1+r.Intn(8))
	}
	return l
}

// someRoster returns a valid roster, in any order.
func someRoster(r *rand.Rand, most int) []api.Shift {
	var l []api.Shift
	for _, s := range someShifts(r, most) {
		if longer := append(slices.Clone(l), s); crew.CheckRoster(longer) == api.OK {
			l = longer
		}
	}
	r.Shuffle(len(l), func(i, k int) { l[i], l[k] = l[k], l[i] })
	return l
}

func someTrips(r *rand.Rand, most int) []api.Trip {
	l := make([]api.Trip, r.Intn(most+1))
	for i := range l {
		from := r.Intn(30)
		l[i] = trip(from, from+1+r.Intn(6), r.Intn(api.MaxCrew+1))
	}
	return l
}

func someCare(r *rand.Rand) api.Care {
	c := api.Care{Every: 1 + r.Intn(20), Grace: r.Intn(12)}
	c.Due = -c.Grace + r.Intn(30)
	return c
}

func someFlights(r *rand.Rand, most int) []int {
	l := make([]int, r.Intn(most+1))
	for i := range l {
		l[i] = 1 + r.Intn(10)
	}
	return l
}

func deal(kind uint8, n int) api.Deal { return api.Deal{Kind: kind, N: n} }

func open(seats, price, leaves int) api.Deal {
	return api.Deal{Kind: api.DealOpen, Seats: seats, Price: price, Leaves: leaves}
}

func reseat(n, seats int) api.Deal { return api.Deal{Kind: api.DealSeats, N: n, Seats: seats} }

// office is the office of the chapter's examples.
func office() api.Office { return api.Office{Notice: 60, Fee: 25} }

// played returns an office after deals that can be done.
func played(t *testing.T, o api.Office, l ...api.Deal) api.Office {
	t.Helper()
	o, at, e := crew.Play(o, l)
	if at != 0 || e != api.OK {
		t.Fatal(at, e)
	}
	return o
}

// sold returns the chapter's office after its first deals: of two seats both are sold, and one guest waits.
func sold(t *testing.T) api.Office {
	t.Helper()
	return played(t, office(), open(2, 400, 100), deal(api.DealSell, 0), deal(api.DealSell, 0), deal(api.DealSell, 0))
}

// someDeal returns a deal that can often be done.
func someDeal(r *rand.Rand, o api.Office) api.Deal {
	kinds := []uint8{api.DealSell, api.DealSell, api.DealSell, api.DealSell, api.DealCancel, api.DealCancel, api.DealTick, api.DealSeats, api.DealSeats, api.DealLeave, api.DealOff, api.DealOpen, 0, 8}
	d := deal(kinds[r.Intn(len(kinds))], r.Intn(len(o.Flights)+1))
	switch d.Kind {
	case api.DealOpen:
		return open(r.Intn(4), r.Intn(3)*r.Intn(400), o.Now+r.Intn(12)-1)
	case api.DealCancel:
		d.N = r.Intn(len(o.Books) + 1)
	case api.DealTick:
		d.N = r.Intn(6)
	case api.DealSeats:
		d.Seats = r.Intn(6) - 1
	}
	return d
}

// someOffice returns an office after deals, some of which could not be done.
func someOffice(r *rand.Rand, most int) api.Office {
	o := api.Office{Now: r.Intn(4), Notice: r.Intn(8), Fee: r.Intn(101)}
	for range 1 + r.Intn(3) {
		o, _ = crew.Do(o, open(r.Intn(4), r.Intn(400), o.Now+r.Intn(12)))
	}
	for range r.Intn(most + 1) {
		if p, e := crew.Do(o, someDeal(r, o)); e == api.OK {
			o = p
		}
	}
	return o
}

// madeOffice returns a valid office that deals need not lead to.
func madeOffice(r *rand.Rand) api.Office {
	o := api.Office{Now: r.Intn(30), Notice: r.Intn(30), Fee: r.Intn(101)}
	for range r.Intn(4) {
		o.Flights = append(o.Flights, api.Departure{Seats: r.Intn(4), Price: r.Intn(400), Leaves: r.Intn(30), State: uint8(r.Intn(3))})
	}
	for range min(r.Intn(12), 12*len(o.Flights)) {
		i := r.Intn(len(o.Flights))
		f := o.Flights[i]
		b := api.Booking{Flight: i, State: api.BookBack}
		seated := seatsTaken(o, i)
		switch {
		case f.State == api.GateOpen && r.Intn(3) > 0:
			b.State = api.BookSeat
			if seated == f.Seats {
				b.State = api.BookWait
			}
		case f.State == api.GateGone && r.Intn(3) > 0 && seated < f.Seats:
			b.State = api.BookFlown
		}
		if b.State == api.BookBack {
			b.Kept = r.Intn(f.Price*o.Fee/100 + 1)
			o.Out += f.Price - b.Kept
		}
		o.In += f.Price
		o.Books = append(o.Books, b)
	}
	return o
}

// seatsTaken returns how many bookings of a departure have a seat, or had one.
func seatsTaken(o api.Office, flight int) int {
	n := 0
	for _, b := range o.Books {
		if b.Flight == flight && (b.State == api.BookSeat || b.State == api.BookFlown) {
			n++
		}
	}
	return n
}

func isSame(o, p api.Office) bool {
	return o.Now == p.Now && o.Notice == p.Notice && o.Fee == p.Fee && o.In == p.In && o.Out == p.Out &&
		slices.Equal(o.Flights, p.Flights) && slices.Equal(o.Books, p.Books)
}

func isNoOffice(o api.Office) bool { return isSame(o, api.Office{}) }

func copyOf(o api.Office) api.Office {
	o.Flights, o.Books = slices.Clone(o.Flights), slices.Clone(o.Books)
	return o
}
