package crew_test

import (
	"math/rand"
	"slices"
	"testing"

	"ballonet/api"
	"ballonet/crew"
)

// byTable returns a valid office after a deal, as the chapter's table says it: what was paid is counted again at the end, and seats are given one by one.
func byTable(o api.Office, d api.Deal) (api.Office, api.Errno) {
	o = copyOf(o)
	isFlight, isBooking := d.N >= 0 && d.N < len(o.Flights), d.N >= 0 && d.N < len(o.Books)
	switch d.Kind {
	case api.DealSell, api.DealLeave, api.DealOff, api.DealSeats:
		if !isFlight {
			return api.Office{}, api.ErrArg
		}
		if o.Flights[d.N].State != api.GateOpen {
			return api.Office{}, api.ErrGone
		}
	case api.DealCancel:
		if !isBooking {
			return api.Office{}, api.ErrArg
		}
		if s := o.Books[d.N].State; s != api.BookSeat && s != api.BookWait {
			return api.Office{}, api.ErrGone
		}
	}
	if e := change(&o, d); e != api.OK {
		return api.Office{}, e
	}
	for {
		i := slices.IndexFunc(o.Books, func(b api.Booking) bool {
			return b.State == api.BookWait && seatsTaken(o, b.Flight) < o.Flights[b.Flight].Seats
		})
		if i < 0 {
			return balanced(o), api.OK
		}
		o.Books[i].State = api.BookSeat
	}
}

// change changes an office by a deal, but for seats that are given, and for what was paid.
func change(o *api.Office, d api.Deal) api.Errno {
	switch d.Kind {
	case api.DealOpen:
		if d.Seats < 0 || d.Seats > 50 || d.Price < 0 || d.Price > 1000000 || d.Leaves < o.Now || d.Leaves > 1000000 {
			return api.ErrArg
		}
		if len(o.Flights) == 10 {
			return api.ErrFull
		}
		o.Flights = append(o.Flights, api.Departure{Seats: d.Seats, Price: d.Price, Leaves: d.Leaves})
	case api.DealSell:
		if len(o.Books) == 120 {
			return api.ErrFull
		}
		o.Books = append(o.Books, api.Booking{Flight: d.N, State: api.BookWait})
	case api.DealCancel:
		b := &o.Books[d.N]
		f := o.Flights[b.Flight]
		if b.State == api.BookSeat && o.Now+o.Notice > f.Leaves {
			b.Kept = f.Price * o.Fee / 100
		}
		b.State = api.BookBack
	case api.DealLeave:
		if o.Now < o.Flights[d.N].Leaves {
			return api.ErrEarly
		}
		shutGate(o, d.N, api.GateGone)
	case api.DealOff:
		shutGate(o, d.N, api.GateOff)
	case api.DealTick:
		if d.N < 1 || d.N > 1000000 || o.Now+d.N > 1000000 {
			return api.ErrArg
		}
		o.Now += d.N
	case api.DealSeats:
		if d.Seats < 0 || d.Seats > 50 {
			return api.ErrArg
		}
		if seatsTaken(*o, d.N) > d.Seats {
			return api.ErrFull
		}
		o.Flights[d.N].Seats = d.Seats
	default:
		return api.ErrArg
	}
	return api.OK
}

// shutGate ends all bookings of a departure.
func shutGate(o *api.Office, flight int, gate uint8) {
	o.Flights[flight].State = gate
	for i, b := range o.Books {
		if b.Flight != flight {
			continue
		}
		if gate == api.GateGone && b.State == api.BookSeat {
			o.Books[i].State = api.BookFlown
		} else {
			o.Books[i].State = api.BookBack
		}
	}
}

// someStart returns an office that deals led to, or one that they need not lead to.
func someStart(r *rand.Rand) api.Office {
	if r.Intn(2) == 0 {
		return madeOffice(r)
	}
	return someOffice(r, 30)
}

func TestP8_4DoAll(t *testing.T) {
	r := rand.New(rand.NewSource(31))
	errors, done := map[api.Errno]int{}, map[uint8]int{}
	for range 20000 {
		o := someStart(r)
		d := someDeal(r, o)
		if r.Intn(20) == 0 {
			o.Flights = append(o.Flights, make([]api.Departure, 10-len(o.Flights))...)
		}
		want, wantE := byTable(o, d)
		got, e := crew.Do(o, d)
		if !isSame(got, want) || e != wantE {
			t.Error(o, d, got, e, want, wantE)
		}
		if errors[e]++; e == api.OK {
			done[d.Kind]++
		}
	}
	for _, e := range []api.Errno{api.OK, api.ErrArg, api.ErrFull, api.ErrGone, api.ErrEarly} {
		if errors[e] < 50 {
			t.Error(errors)
		}
	}
	for kind := range uint8(api.DealSeats) {
		if done[kind+1] < 100 {
			t.Error(done)
		}
	}
}

// What was paid in is what is held, earned, kept and paid back together, whatever was done; and nothing is kept of who waits, of what is called off, or with notice.
func TestP8_8Money(t *testing.T) {
	r := rand.New(rand.NewSource(32))
	keptOf := map[uint8]int{}
	for range 6000 {
		o := someStart(r)
		d := someDeal(r, o)
		p, e := crew.Do(o, d)
		if e != api.OK {
			continue
		}
		held, earned, kept, back, e := crew.Purse(p)
		if e != api.OK || p.In != held+earned+kept+back || p.Out != back || min(held, earned, kept, back) < 0 {
			t.Error(o, d, p, held, earned, kept, back, e)
		}
		paid := 0
		if d.Kind == api.DealSell {
			paid = o.Flights[d.N].Price
		}
		if p.In != o.In+paid || p.Out < o.Out {
			t.Error(o, d, p)
		}
		for i, b := range o.Books {
			more := p.Books[i].Kept - b.Kept
			if more == 0 {
				continue
			}
			keptOf[d.Kind]++
			f := o.Flights[b.Flight]
			if d.Kind != api.DealCancel || b.State != api.BookSeat || f.Leaves-o.Now >= o.Notice || more != f.Price*o.Fee/100 {
				t.Error(o, d, p)
			}
		}
	}
	if len(keptOf) != 1 || keptOf[api.DealCancel] < 50 {
		t.Error(keptOf)
	}
}

// No departure has more bookings with a seat than seats, no seat is free while one waits, and who waits is given a seat in the order of bookings. What was flown, or paid back, stays so.
func TestP8_9Seats(t *testing.T) {
	r := rand.New(rand.NewSource(33))
	given := 0
	for range 20000 {
		o := someStart(r)
		d := someDeal(r, o)
		p, e := crew.Do(o, d)
		if e != api.OK {
			continue
		}
		for i, f := range p.Flights {
			seated, waiting, flown, _, e := crew.Counts(p, i)
			if e != api.OK || seated+flown > f.Seats || seated+flown < f.Seats && waiting > 0 {
				t.Error(o, d, p, i)
			}
		}
		passed := map[int]bool{}
		for i, b := range o.Books {
			next := p.Books[i]
			switch {
			case b.State == api.BookFlown || b.State == api.BookBack:
				if next != b {
					t.Error(o, d, p, i)
				}
			case b.State == api.BookSeat && next.State == api.BookWait:
				t.Error(o, d, p, i)
			case b.State == api.BookWait && next.State == api.BookWait:
				passed[b.Flight] = true
			case b.State == api.BookWait && next.State == api.BookSeat:
				given++
				if passed[b.Flight] {
					t.Error(o, d, p, i)
				}
			}
		}
	}
	if given < 100 {
		t.Error(given)
	}
}

// Deals can be cut anywhere.
func TestP8_10Cut(t *testing.T) {
	r := rand.New(rand.NewSource(34))
	ends, cuts := map[bool]int{}, 0
	for range 1500 {
		o := someStart(r)
		var l []api.Deal
		for p := o; len(l) < 8; {
			d := someDeal(r, p)
			next, e := crew.Do(p, d)
			if e == api.OK {
				p = next
			}
			if e == api.OK || r.Intn(20) == 0 {
				l = append(l, d)
			}
		}
		want, wantAt, wantE := crew.Play(o, l)
		ends[wantE == api.OK]++
		for cut := range len(l) + 1 {
			p, at, e := crew.Play(o, l[:cut])
			if e != api.OK {
				if at != wantAt || e != wantE || cut <= wantAt || !isNoOffice(p) {
					t.Error(o, l, cut, at, e)
				}
				continue
			}
			cuts++
			p, at, e = crew.Play(p, l[cut:])
			if e != api.OK {
				at += cut
			}
			if !isSame(p, want) || at != wantAt || e != wantE {
				t.Error(o, l, cut, p, at, e)
			}
		}
	}
	if ends[true] < 200 || ends[false] < 200 || cuts < 5000 {
		t.Error(ends, cuts)
	}
}

// Play does what Do does, deal by deal.
func TestP8_4PlayAll(t *testing.T) {
	r := rand.New(rand.NewSource(35))
	for range 1500 {
		o := someStart(r)
		l := make([]api.Deal, r.Intn(6))
		for i := range l {
			l[i] = someDeal(r, o)
		}
		want, wantAt, wantE := copyOf(o), 0, api.OK
		for i, d := range l {
			if want, wantE = crew.Do(want, d); wantE != api.OK {
				wantAt = i
				break
			}
		}
		if got, at, e := crew.Play(o, l); !isSame(got, want) || at != wantAt || e != wantE {
			t.Error(o, l, got, at, e, want, wantAt, wantE)
		}
	}
}
