package crew

import (
	"slices"

	"ballonet/api"
)

// Do returns the office after a deal (P8.4).
func Do(o api.Office, d api.Deal) (api.Office, api.Errno) {
	if e := Check(o); e != api.OK {
		return api.Office{}, e
	}
	return after(o, d)
}

// Play returns the office after deals (P8.4).
func Play(o api.Office, l []api.Deal) (p api.Office, at int, e api.Errno) {
	if e := Check(o); e != api.OK {
		return api.Office{}, 0, e
	}
	if len(l) > api.MaxDeals {
		return api.Office{}, 0, api.ErrMany
	}
	p = copied(o)
	for i, d := range l {
		next, e := after(p, d)
		if e != api.OK {
			return api.Office{}, i, e
		}
		p = next
	}
	return p, 0, api.OK
}

// copied returns an office with lists of its own.
func copied(o api.Office) api.Office {
	o.Flights, o.Books = slices.Clone(o.Flights), slices.Clone(o.Books)
	return o
}

// after returns a valid office after a deal, or the deal's error.
func after(o api.Office, d api.Deal) (p api.Office, e api.Errno) {
	defer func() {
		reason := recover()
		if reason == nil {
			return
		}
		refused, isRefused := reason.(api.Errno)
		if !isRefused {
			panic(reason)
		}
		p, e = api.Office{}, refused
	}()
	w := desk(copied(o))
	dealOf(d.Kind)(&w, d)
	return api.Office(w), api.OK
}

// need ends a deal that cannot be done, with its error, unless what it needs is so.
func need(so bool, e api.Errno) {
	if !so {
		panic(e)
	}
}

// desk is an office at work. Where a deal cannot be done it may be left halfway, as after throws it away then.
type desk api.Office

// dealOf returns what is done by a deal of a kind.
func dealOf(kind uint8) func(w *desk, d api.Deal) {
	deals := [...]func(w *desk, d api.Deal){
		api.DealOpen:   (*desk).open,
		api.DealSell:   (*desk).sell,
		api.DealCancel: (*desk).cancel,
		api.DealLeave:  (*desk).leave,
		api.DealOff:    (*desk).callOff,
		api.DealTick:   (*desk).tick,
		api.DealSeats:  (*desk).reseat,
	}
	need(inOrder(api.DealOpen, int(kind), api.DealSeats), api.ErrArg)
	return deals[kind]
}

func (w *desk) open(d api.Deal) {
	f := api.Departure{Seats: d.Seats, Price: d.Price, Leaves: d.Leaves, State: api.GateOpen}
	need(isDeparture(f) && w.Now <= f.Leaves, api.ErrArg)
	need(len(w.Flights) < api.MaxOpen, api.ErrFull)
	w.Flights = append(w.Flights, f)
}

// sell books a place to wait at first: where a seat is free nobody else waits, so that it is given to this booking.
func (w *desk) sell(d api.Deal) {
	f := w.flight(d)
	need(len(w.Books) < api.MaxBooked, api.ErrFull)
	w.Books = append(w.Books, api.Booking{Flight: d.N, State: api.BookWait})
	w.In += f.Price
	w.give(d.N)
}

func (w *desk) cancel(d api.Deal) {
	need(isIndex(d.N, len(w.Books)), api.ErrArg)
	b := w.Books[d.N]
	need(b.State == api.BookSeat || b.State == api.BookWait, api.ErrGone)
	f, kept := w.Flights[b.Flight], 0
	if b.State == api.BookSeat && f.Leaves-w.Now < w.Notice {
		kept = fee(w.Fee, f)
	}
	w.payBack(d.N, kept)
	w.give(b.Flight)
}

func (w *desk) leave(d api.Deal) {
	f := w.flight(d)
	need(f.Leaves <= w.Now, api.ErrEarly)
	f.State = api.GateGone
	for i, b := range booked(w.Books, d.N) {
		switch b.State {
		case api.BookSeat:
			w.Books[i].State = api.BookFlown
		case api.BookWait:
			w.payBack(i, 0)
		}
	}
}

func (w *desk) callOff(d api.Deal) {
	w.flight(d).State = api.GateOff
	for i, b := range booked(w.Books, d.N) {
		if b.State != api.BookBack {
			w.payBack(i, 0)
		}
	}
}

func (w *desk) tick(d api.Deal) {
	need(inOrder(1, d.N, api.MaxTime) && isTime(w.Now+d.N), api.ErrArg)
	w.Now += d.N
}

func (w *desk) reseat(d api.Deal) {
	f := w.flight(d)
	need(areSeats(d.Seats), api.ErrArg)
	need(count(w.Books, d.N, api.BookSeat) <= d.Seats, api.ErrFull)
	f.Seats = d.Seats
	w.give(d.N)
}

// flight returns the departure that a deal is for.
func (w *desk) flight(d api.Deal) *api.Departure {
	need(isIndex(d.N, len(w.Flights)), api.ErrArg)
	f := &w.Flights[d.N]
	need(f.State == api.GateOpen, api.ErrGone)
	return f
}

// give gives free seats of a departure to bookings that wait, in their order.
func (w *desk) give(flight int) {
	free := w.Flights[flight].Seats - count(w.Books, flight, api.BookSeat)
	for i, b := range booked(w.Books, flight) {
		if free > 0 && b.State == api.BookWait {
			w.Books[i].State = api.BookSeat
			free--
		}
	}
}

// payBack ends a booking, and pays its price back but for what is kept.
func (w *desk) payBack(booking, kept int) {
	b := &w.Books[booking]
	b.State, b.Kept = api.BookBack, kept
	w.Out += w.Flights[b.Flight].Price - kept
}
