package crew

import (
	"iter"
	"slices"

	"ballonet/api"
)

// Check returns ErrOffice unless an office is valid (P8.4).
func Check(o api.Office) api.Errno {
	if !isTime(o.Now) || !isTime(o.Notice) || !inOrder(0, o.Fee, 100) || !areFlights(o.Flights) ||
		!areBooks(o) || !areSeated(o) || !isBalanced(o) {
		return api.ErrOffice
	}
	return api.OK
}

// areFlights reports whether an office may have some departures.
func areFlights(l []api.Departure) bool {
	isNone := func(f api.Departure) bool { return !isDeparture(f) }
	return len(l) <= api.MaxOpen && !slices.ContainsFunc(l, isNone)
}

// isDeparture reports whether a departure is valid.
func isDeparture(f api.Departure) bool {
	return areSeats(f.Seats) && inOrder(0, f.Price, api.MaxPrice) && isTime(f.Leaves) && f.State <= api.GateOff
}

// areSeats reports whether a departure may have a number of seats.
func areSeats(n int) bool { return inOrder(0, n, api.MaxBerths) }

// areBooks reports whether each booking of an office, whose departures are valid, is one that it may have.
func areBooks(o api.Office) bool {
	if len(o.Books) > api.MaxBooked {
		return false
	}
	for _, b := range o.Books {
		if !isIndex(b.Flight, len(o.Flights)) {
			return false
		}
		f := o.Flights[b.Flight]
		if !slices.Contains(statesAt(f.State), b.State) || !mayBeKept(b, fee(o.Fee, f)) {
			return false
		}
	}
	return true
}

// statesAt returns the states that bookings of a departure may have, by its own state.
func statesAt(gate uint8) []uint8 {
	switch gate {
	case api.GateOpen:
		return []uint8{api.BookSeat, api.BookWait, api.BookBack}
	case api.GateGone:
		return []uint8{api.BookFlown, api.BookBack}
	}
	return []uint8{api.BookBack}
}

// fee returns the fee of a departure, by an office's fee in hundredths of a price.
func fee(hundredths int, f api.Departure) int { return f.Price * hundredths / 100 }

// mayBeKept reports whether a booking's Kept is one that it may have, by the fee of its departure.
func mayBeKept(b api.Booking, fee int) bool {
	return b.Kept == 0 || b.State == api.BookBack && inOrder(0, b.Kept, fee)
}

// areSeated reports whether no departure has more bookings with a seat than seats, and none of them waits beside a free seat.
func areSeated(o api.Office) bool {
	for i, f := range o.Flights {
		free := f.Seats - count(o.Books, i, api.BookSeat, api.BookFlown)
		if free < 0 || free > 0 && count(o.Books, i, api.BookWait) > 0 {
			return false
		}
	}
	return true
}

// count returns how many bookings of a departure have one of some states.
func count(books []api.Booking, flight int, states ...uint8) int {
	n := 0
	for _, b := range booked(books, flight) {
		if slices.Contains(states, b.State) {
			n++
		}
	}
	return n
}

// booked yields the bookings of a departure with their indices.
func booked(books []api.Booking, flight int) iter.Seq2[int, api.Booking] {
	return func(yield func(int, api.Booking) bool) {
		for i, b := range books {
			if b.Flight == flight && !yield(i, b) {
				return
			}
		}
	}
}

// isBalanced reports whether what was paid in and paid back is what the bookings say.
func isBalanced(o api.Office) bool {
	held, earned, kept, back := purse(o)
	return o.In == held+earned+kept+back && o.Out == back
}

// purse returns where the prices of all bookings are.
func purse(o api.Office) (held, earned, kept, back int) {
	for _, b := range o.Books {
		price := o.Flights[b.Flight].Price
		switch b.State {
		case api.BookSeat, api.BookWait:
			held += price
		case api.BookFlown:
			earned += price
		case api.BookBack:
			kept += b.Kept
			back += price - b.Kept
		}
	}
	return held, earned, kept, back
}

// Counts returns how many bookings of a departure are in which state (P8.5).
func Counts(o api.Office, flight int) (seated, waiting, flown, back int, e api.Errno) {
	if e := Check(o); e != api.OK {
		return 0, 0, 0, 0, e
	}
	if !isIndex(flight, len(o.Flights)) {
		return 0, 0, 0, 0, api.ErrArg
	}
	in := func(state uint8) int { return count(o.Books, flight, state) }
	return in(api.BookSeat), in(api.BookWait), in(api.BookFlown), in(api.BookBack), api.OK
}

// Purse returns where the money is (P8.5).
func Purse(o api.Office) (held, earned, kept, back int, e api.Errno) {
	if e := Check(o); e != api.OK {
		return 0, 0, 0, 0, e
	}
	held, earned, kept, back = purse(o)
	return held, earned, kept, back, api.OK
}

// Turn returns the place of a booking among those that wait, or 0 if it has a seat (P8.5).
func Turn(o api.Office, booking int) (int, api.Errno) {
	if e := Check(o); e != api.OK {
		return 0, e
	}
	if !isIndex(booking, len(o.Books)) {
		return 0, api.ErrArg
	}
	b := o.Books[booking]
	switch b.State {
	case api.BookSeat:
		return 0, api.OK
	case api.BookWait:
		return 1 + count(o.Books[:booking], b.Flight, api.BookWait), api.OK
	}
	return 0, api.ErrGone
}
