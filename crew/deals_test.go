package crew_test

import (
	"math"
	"slices"
	"testing"

	"ballonet/api"
	"ballonet/crew"
)

// seat, wait, flown and back are bookings of the first departure.
func seat() api.Booking { return api.Booking{State: api.BookSeat} }

func wait() api.Booking { return api.Booking{State: api.BookWait} }

func flown() api.Booking { return api.Booking{State: api.BookFlown} }

func back(kept int) api.Booking { return api.Booking{State: api.BookBack, Kept: kept} }

// books checks the bookings of an office, and what was paid.
func books(t *testing.T, o api.Office, in, out int, want ...api.Booking) {
	t.Helper()
	if !slices.Equal(o.Books, want) || o.In != in || o.Out != out || crew.Check(o) != api.OK {
		t.Error(o, "want", want, in, out)
	}
}

func TestP8_4Examples(t *testing.T) {
	o := sold(t)
	books(t, o, 1200, 0, seat(), seat(), wait())
	o = played(t, o, deal(api.DealCancel, 0))
	books(t, o, 1200, 400, back(0), seat(), seat())
	o = played(t, o, deal(api.DealTick, 50), deal(api.DealCancel, 1))
	books(t, o, 1200, 700, back(0), back(100), seat())
	o = played(t, o, deal(api.DealTick, 50), deal(api.DealLeave, 0))
	books(t, o, 1200, 700, back(0), back(100), flown())
	if held, earned, kept, back, e := crew.Purse(o); held != 0 || earned != 400 || kept != 100 || back != 700 || e != api.OK {
		t.Error(held, earned, kept, back, e)
	}
}

// refused checks that a deal cannot be done, and why.
func refused(t *testing.T, o api.Office, d api.Deal, want api.Errno) {
	t.Helper()
	if p, e := crew.Do(o, d); e != want || !isNoOffice(p) {
		t.Error(d, p, e, "want", want)
	}
}

func TestP8_4Open(t *testing.T) {
	o := api.Office{Now: 7, Fee: 100}
	o = played(t, o, open(0, 0, 7), api.Deal{Kind: api.DealOpen, N: math.MinInt, Seats: 50, Price: 1000000, Leaves: 1000000})
	want := []api.Departure{{Leaves: 7}, {Seats: 50, Price: 1000000, Leaves: 1000000}}
	if !slices.Equal(o.Flights, want) || len(o.Books) > 0 || o.In != 0 || o.Out != 0 || o.Now != 7 {
		t.Error(o)
	}
	for _, d := range []api.Deal{open(-1, 0, 7), open(51, 0, 7), open(0, -1, 7), open(0, 1000001, 7), open(0, 0, 6), open(0, 0, -1), open(0, 0, 1000001), open(0, 0, math.MinInt), open(math.MaxInt, math.MaxInt, math.MaxInt)} {
		refused(t, o, d, api.ErrArg)
	}
	o = played(t, o, slices.Repeat([]api.Deal{open(1, 1, 9)}, 8)...)
	refused(t, o, open(1, 1, 9), api.ErrFull)
	refused(t, o, open(1, 1, 6), api.ErrArg)
}

func TestP8_4Sell(t *testing.T) {
	o := played(t, office(), open(1, 400, 9), open(0, 5, 9), open(2, 0, 9), deal(api.DealSell, 1), deal(api.DealSell, 0), deal(api.DealSell, 0), deal(api.DealSell, 2))
	books(t, o, 810-5, 0, api.Booking{Flight: 1, State: api.BookWait}, seat(), wait(), api.Booking{Flight: 2, State: api.BookSeat})
	o = played(t, o, deal(api.DealOff, 1), deal(api.DealTick, 10), deal(api.DealSell, 0), deal(api.DealLeave, 0))
	for _, n := range []int{3, -1, math.MaxInt, math.MinInt} {
		refused(t, o, deal(api.DealSell, n), api.ErrArg)
	}
	refused(t, o, deal(api.DealSell, 0), api.ErrGone)
	refused(t, o, deal(api.DealSell, 1), api.ErrGone)
	o = played(t, o, slices.Repeat([]api.Deal{deal(api.DealSell, 2)}, 115)...)
	if len(o.Books) != 120 {
		t.Fatal(len(o.Books))
	}
	refused(t, o, deal(api.DealSell, 2), api.ErrFull)
	refused(t, o, deal(api.DealSell, 1), api.ErrGone)
	refused(t, o, deal(api.DealSell, 3), api.ErrArg)
}

func TestP8_4Cancel(t *testing.T) {
	o := sold(t)
	// Who waits has all of it back, also without notice; nobody else has a seat for it.
	books(t, played(t, o, deal(api.DealTick, 99), deal(api.DealCancel, 2)), 1200, 400, seat(), seat(), back(0))
	// The notice is just kept, and just not; also after the departure should have left.
	books(t, played(t, o, deal(api.DealTick, 40), deal(api.DealCancel, 1)), 1200, 400, seat(), back(0), seat())
	books(t, played(t, o, deal(api.DealTick, 41), deal(api.DealCancel, 1)), 1200, 300, seat(), back(100), seat())
	books(t, played(t, o, deal(api.DealTick, 170), deal(api.DealCancel, 0)), 1200, 300, back(100), seat(), seat())
	o.Notice = 0
	books(t, played(t, o, deal(api.DealTick, 100), deal(api.DealCancel, 0)), 1200, 400, back(0), seat(), seat())
	books(t, played(t, o, deal(api.DealTick, 101), deal(api.DealCancel, 0)), 1200, 300, back(100), seat(), seat())
	// The fee is rounded down.
	o = played(t, api.Office{Notice: 9, Fee: 33}, open(1, 8, 0), deal(api.DealSell, 0), deal(api.DealCancel, 0))
	books(t, o, 8, 6, back(2))
	o = played(t, api.Office{Notice: 9, Fee: 100}, open(1, 1000000, 0), deal(api.DealSell, 0), deal(api.DealCancel, 0))
	books(t, o, 1000000, 0, back(1000000))
	o = played(t, three(), open(0, 9, 50), deal(api.DealSell, 3), deal(api.DealCancel, 0))
	if o.Books[0] != back(100) || o.Books[5] != seat() || o.Books[7] != wait() || o.Books[8] != (api.Booking{Flight: 3, State: api.BookWait}) {
		t.Error(o)
	}
	for _, n := range []int{9, -1, math.MaxInt, math.MinInt} {
		refused(t, o, deal(api.DealCancel, n), api.ErrArg)
	}
	for _, n := range []int{0, 1, 2, 4, 6} {
		refused(t, o, deal(api.DealCancel, n), api.ErrGone)
	}
}

func TestP8_4Leave(t *testing.T) {
	o := sold(t)
	refused(t, o, deal(api.DealLeave, 0), api.ErrEarly)
	refused(t, played(t, o, deal(api.DealTick, 99)), deal(api.DealLeave, 0), api.ErrEarly)
	o = played(t, o, deal(api.DealTick, 99), deal(api.DealCancel, 0), deal(api.DealSell, 0), deal(api.DealTick, 1), deal(api.DealLeave, 0))
	books(t, o, 1600, 700, back(100), flown(), flown(), back(0))
	if o.Flights[0] != (api.Departure{Seats: 2, Price: 400, Leaves: 100, State: api.GateGone}) {
		t.Error(o)
	}
	refused(t, o, deal(api.DealLeave, 0), api.ErrGone)
	refused(t, o, deal(api.DealLeave, 1), api.ErrArg)
	refused(t, o, deal(api.DealLeave, -1), api.ErrArg)
	refused(t, three(), deal(api.DealLeave, 2), api.ErrGone)
	// Other departures' bookings stay as they are.
	o = played(t, three(), deal(api.DealSell, 0), deal(api.DealTick, 50), deal(api.DealLeave, 0))
	want := three().Books
	want[0], want[3], want[5], want[7] = flown(), flown(), back(0), back(0)
	books(t, o, three().In+400, three().Out+1200, append(want, back(0))...)
}

func TestP8_4Off(t *testing.T) {
	o := played(t, sold(t), deal(api.DealTick, 99), deal(api.DealCancel, 0), deal(api.DealSell, 0), deal(api.DealOff, 0))
	books(t, o, 1600, 1500, back(100), back(0), back(0), back(0))
	if o.Flights[0] != (api.Departure{Seats: 2, Price: 400, Leaves: 100, State: api.GateOff}) {
		t.Error(o)
	}
	refused(t, o, deal(api.DealOff, 0), api.ErrGone)
	refused(t, o, deal(api.DealOff, 1), api.ErrArg)
	refused(t, o, deal(api.DealOff, -1), api.ErrArg)
	refused(t, three(), deal(api.DealOff, 1), api.ErrGone)
	o = played(t, three(), deal(api.DealOff, 0))
	want := three().Books
	want[0], want[3], want[5], want[7] = back(0), back(0), back(0), back(0)
	books(t, o, three().In, three().Out+1600, want...)
}

func TestP8_4Tick(t *testing.T) {
	o := played(t, three(), deal(api.DealTick, 1))
	books(t, o, three().In, three().Out, three().Books...)
	if o.Now != 51 || !slices.Equal(o.Flights, three().Flights) {
		t.Error(o)
	}
	if o = played(t, office(), deal(api.DealTick, 1000000)); o.Now != 1000000 {
		t.Error(o)
	}
	refused(t, o, deal(api.DealTick, 1), api.ErrArg)
	for _, n := range []int{0, -1, 999951, 1000001, math.MaxInt, math.MinInt} {
		refused(t, three(), deal(api.DealTick, n), api.ErrArg)
	}
	if o = played(t, three(), deal(api.DealTick, 999950)); o.Now != 1000000 {
		t.Error(o)
	}
}

func TestP8_4Seats(t *testing.T) {
	o := played(t, sold(t), deal(api.DealSell, 0))
	for i, x := range []struct {
		seats int
		want  []api.Booking
	}{
		{2, []api.Booking{seat(), seat(), wait(), wait()}},
		{3, []api.Booking{seat(), seat(), seat(), wait()}},
		{4, []api.Booking{seat(), seat(), seat(), seat()}},
		{50, []api.Booking{seat(), seat(), seat(), seat()}},
	} {
		p := played(t, o, reseat(0, x.seats))
		if books(t, p, 1600, 0, x.want...); p.Flights[0] != (api.Departure{Seats: x.seats, Price: 400, Leaves: 100}) {
			t.Error(i, p)
		}
	}
	refused(t, o, reseat(0, 1), api.ErrFull)
	refused(t, o, reseat(0, 0), api.ErrFull)
	for _, seats := range []int{-1, 51, math.MaxInt, math.MinInt} {
		refused(t, o, reseat(0, seats), api.ErrArg)
		refused(t, three(), reseat(1, seats), api.ErrGone)
		refused(t, three(), reseat(3, seats), api.ErrArg)
	}
	refused(t, three(), reseat(2, 0), api.ErrGone)
	refused(t, three(), reseat(-1, 0), api.ErrArg)
	// Only what has a seat now counts, and only of this departure.
	o = played(t, three(), open(5, 1, 99), deal(api.DealSell, 3), deal(api.DealCancel, 0), deal(api.DealCancel, 3), deal(api.DealCancel, 5), reseat(0, 1))
	refused(t, o, reseat(0, 0), api.ErrFull)
	if o.Flights[0].Seats != 1 || o.Flights[3].Seats != 5 {
		t.Error(o)
	}
}

func TestP8_4Kinds(t *testing.T) {
	for kind := range 256 {
		if kind == 0 || kind > api.DealSeats {
			refused(t, three(), deal(uint8(kind), 1), api.ErrArg)
		}
	}
}

func TestP8_4Play(t *testing.T) {
	tick := deal(api.DealTick, 1)
	o, at, e := crew.Play(three(), slices.Repeat([]api.Deal{tick}, 200))
	if o.Now != 250 || at != 0 || e != api.OK {
		t.Error(o, at, e)
	}
	for i, x := range []struct {
		l    []api.Deal
		at   int
		want api.Errno
	}{
		{append([]api.Deal{{}}, slices.Repeat([]api.Deal{tick}, 200)...), 0, api.ErrMany},
		{[]api.Deal{{}, tick}, 0, api.ErrArg},
		{[]api.Deal{tick, tick, deal(api.DealLeave, 0), {}}, 2, api.ErrEarly},
		{append(slices.Repeat([]api.Deal{tick}, 199), deal(api.DealCancel, 1)), 199, api.ErrGone},
	} {
		if p, at, e := crew.Play(three(), x.l); !isNoOffice(p) || at != x.at || e != x.want {
			t.Error(i, p, at, e)
		}
	}
}
