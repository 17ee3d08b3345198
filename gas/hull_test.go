package gas_test

import (
	"math/big"
	"math/rand"
	"testing"

	"ballonet/api"
	"ballonet/gas"
)

// tight is the hull of the chapter's examples.
func tight() api.Hull {
	return api.Hull{Room: 3000, Gas: 9000, Warm: only(0), Ballonet: 1380, Bag: 5000, Least: 20, Most: 60}
}

// largest is a hull that has the most of everything.
func largest() api.Hull {
	return api.Hull{Room: mostRoom, Gas: mostAmount, Warm: span(-300, 300), Ballonet: mostAmount, Bag: mostAmount, Least: 500, Most: 500}
}

func badHulls() []api.Hull {
	var bad []api.Hull
	change := func(numbers []int, f func(h *api.Hull, n int)) {
		for _, n := range numbers {
			for _, h := range []api.Hull{tight(), largest()} {
				f(&h, n)
				bad = append(bad, h)
			}
		}
	}
	change(beyond(1, mostRoom), func(h *api.Hull, n int) { h.Room = n })
	change(beyond(0, mostAmount), func(h *api.Hull, n int) { h.Gas = n })
	change(beyond(0, mostAmount), func(h *api.Hull, n int) { h.Bag = n })
	change(beyond(0, mostAmount), func(h *api.Hull, n int) { h.Ballonet = n })
	change(beyond(0, mostAmount), func(h *api.Hull, n int) { h.Ballonet, h.Bag = n, n })
	change([]int{1380, 0}, func(h *api.Hull, n int) { h.Ballonet, h.Bag = n+1, n })
	for _, s := range outside(-api.MaxWarm, api.MaxWarm) {
		change([]int{0}, func(h *api.Hull, n int) { h.Warm = s })
	}
	for _, s := range outside(0, api.MaxOver) {
		change([]int{0}, func(h *api.Hull, n int) { h.Least, h.Most = s.Lo, s.Hi })
	}
	return append(bad, api.Hull{})
}

func goodHulls() []api.Hull {
	good := []api.Hull{tight(), largest(), {Room: 1}, {Room: mostRoom, Bag: mostAmount}}
	for _, s := range inside(-api.MaxWarm, api.MaxWarm) {
		h := tight()
		h.Warm = s
		good = append(good, h)
	}
	for _, s := range inside(0, api.MaxOver) {
		h := tight()
		h.Least, h.Most = s.Lo, s.Hi
		good = append(good, h)
	}
	h := tight()
	h.Ballonet = h.Bag
	return append(good, h)
}

func TestP3_4CheckHull(t *testing.T) {
	for _, h := range goodHulls() {
		if e := gas.CheckHull(h); e != api.OK {
			t.Error(h, e)
		}
	}
	for _, h := range badHulls() {
		if e := gas.CheckHull(h); e != api.ErrHull {
			t.Error(h, e)
		}
	}
}

// noHull checks that all functions with a hull and air return an error, and nothing beside it.
func noHull(t *testing.T, want api.Errno, h api.Hull, a api.Air) {
	t.Helper()
	if s, e := gas.Over(h, a); e != want || s != (api.Span{}) {
		t.Error("Over", h, a, s, e)
	}
	if is, e := gas.Holds(h, a); e != want || is {
		t.Error("Holds", h, a, is, e)
	}
	if s, e := gas.Blow(h, a); e != want || s != (api.Span{}) {
		t.Error("Blow", h, a, s, e)
	}
}

// R1 and R2: the error of the hull comes first, then that of the air or of the temperature.
func TestP3_4Errors(t *testing.T) {
	for _, h := range badHulls() {
		noHull(t, api.ErrHull, h, calm())
		noHull(t, api.ErrHull, h, badAirs()[0])
		for _, temp := range []api.Span{only(2900), only(0)} {
			if n, e := gas.Roof(h, temp); e != api.ErrHull || n != 0 {
				t.Error(h, temp, n, e)
			}
		}
	}
	for _, a := range badAirs() {
		noHull(t, api.ErrAround, tight(), a)
		noHull(t, api.ErrAround, largest(), a)
	}
	for _, temp := range outside(api.MinTemp, api.MaxTemp) {
		if n, e := gas.Roof(tight(), temp); e != api.ErrArg || n != 0 {
			t.Error(temp, n, e)
		}
	}
}

// Chosen hulls, by hand.
func TestP3_4Hulls(t *testing.T) {
	with := func(f func(h *api.Hull)) api.Hull {
		h := tight()
		f(&h)
		return h
	}
	none := span(1, 0)
	for i, x := range []struct {
		h          api.Hull
		a          api.Air
		over, blow api.Span
		holds      bool
		roof       int
	}{
		{tight(), calm(), only(34), span(1366, 1406), true, 8640},
		{with(func(h *api.Hull) { h.Ballonet = 1366 }), calm(), span(20, 21), span(1366, 1406), true, 8640},
		{with(func(h *api.Hull) { h.Ballonet = 1365 }), calm(), span(19, 20), span(1366, 1406), false, 8640},
		{with(func(h *api.Hull) { h.Ballonet = 1406 }), calm(), span(59, 60), span(1366, 1406), true, 8640},
		{with(func(h *api.Hull) { h.Ballonet = 1407 }), calm(), span(60, 61), span(1366, 1406), false, 8640},
		// The bag ends it, and nothing is left.
		{with(func(h *api.Hull) { h.Bag = 1380 }), calm(), only(34), span(1366, 1380), true, 8640},
		{with(func(h *api.Hull) { h.Ballonet, h.Bag = 0, 1365 }), calm(), only(-1300), none, false, 8640},
		{with(func(h *api.Hull) { h.Ballonet, h.Bag = 0, 1366 }), calm(), only(-1300), only(1366), false, 8640},
		// The gas alone is enough: 8700 - 8640 is 60, 8700 - 8680 is 20; at 8639 it is too much.
		{tight(), air(only(8640), only(2900)), only(1394), only(0), false, 8640},
		{tight(), air(only(8639), only(2900)), only(1395), none, false, 8640},
		{tight(), air(only(8680), only(2900)), only(1354), span(0, 41), false, 8640},
		// What is known less well: (9000 * 2890 + 1380 * 2890) / 3000 - 10010 is -10.6, with 2900 and 9990 it is 44.
		{tight(), air(span(9990, 10010), span(2890, 2900)), span(-11, 44), none, false, 8640},
		{tight(), air(span(9990, 10010), only(2900)), span(24, 44), span(1376, 1396), true, 8640},
		// (10010 + 20) * 3000 / 2895 - 9000 is 1393.7.., (10010 + 60) * 3000 / 2900 - 9000 is 1417.2..
		{with(func(h *api.Hull) { h.Ballonet = 1400 }), air(only(10010), span(2895, 2900)), span(26, 44), span(1394, 1417), true, 8640},
		// Superheat moves the gas alone: 9000 * 10 / 3000 is 30.
		{with(func(h *api.Hull) { h.Warm = only(10) }), calm(), only(64), span(1335, 1375), false, 8670},
		{with(func(h *api.Hull) { h.Warm = span(0, 10) }), calm(), span(34, 64), span(1366, 1375), false, 8670},
		{with(func(h *api.Hull) { h.Warm = span(-7, 7) }), calm(), span(13, 55), none, false, 0},
		// No gas: all is in the ballonet, which is too small for most pressures.
		{api.Hull{Room: 3000, Bag: 1100, Least: 0, Most: 500}, calm(), only(-10000), none, false, 1000},
		{api.Hull{Room: 10, Ballonet: 1, Bag: 1, Least: 0, Most: 0}, calm(), only(-9710), none, false, 0},
		// All or nothing: a unit is 1450 of pressure.
		{api.Hull{Room: 2, Ballonet: 7, Bag: 9, Least: 150, Most: 150}, calm(), only(150), only(7), true, 1300},
	} {
		if s, e := gas.Over(x.h, x.a); s != x.over || e != api.OK {
			t.Error(i, "over", s, e)
		}
		if is, e := gas.Holds(x.h, x.a); is != x.holds || e != api.OK {
			t.Error(i, "holds", is, e)
		}
		e := api.OK
		if x.blow == none {
			x.blow, e = api.Span{}, api.ErrNone
		}
		if s, got := gas.Blow(x.h, x.a); s != x.blow || got != e {
			t.Error(i, "blow", s, got)
		}
		e = api.OK
		if x.roof == 0 {
			e = api.ErrNone
		}
		if n, got := gas.Roof(x.h, x.a.Temp); n != x.roof || got != e {
			t.Error(i, "roof", n, got)
		}
	}
}

// someHull returns a hull whose gas and bag are about what its room needs in some air.
func someHull(r *rand.Rand, a api.Air, room int) api.Hull {
	h := api.Hull{Room: 1 + r.Intn(room), Warm: within(r, -api.MaxWarm, api.MaxWarm)}
	full := h.Room * a.Press.Lo / a.Temp.Lo
	h.Gas = min(r.Intn(full+2), mostAmount)
	h.Ballonet = min(max(full-h.Gas+r.Intn(full/20+3), 0), mostAmount)
	h.Bag = min(h.Ballonet+r.Intn(full+2), mostAmount)
	limits := within(r, 0, api.MaxOver)
	if r.Intn(2) == 0 {
		limits = span(0, api.MaxOver)
	}
	h.Least, h.Most = limits.Lo, limits.Hi
	return h
}

// overOf returns an overpressure as the chapter defines it.
func overOf(h api.Hull, press, temp, warm *big.Rat) *big.Rat {
	gas := times(whole(h.Gas), plus(temp, warm))
	return minus(per(plus(gas, times(whole(h.Ballonet), temp)), whole(h.Room)), press)
}

// allOver returns the extent of a hull's overpressures.
func allOver(r *rand.Rand, h api.Hull, a api.Air) extent {
	var x extent
	everywhere(r, a, h.Warm, func(press, temp, warm *big.Rat) { x.add(overOf(h, press, temp, warm)) })
	return x
}

// holds reports whether all overpressures are within a hull's limits.
func holds(h api.Hull, x extent) bool {
	return x.least.Cmp(whole(h.Least)) >= 0 && x.most.Cmp(whole(h.Most)) <= 0
}

// narrow returns air that is known well, most often.
func narrow(r *rand.Rand) api.Air {
	a := someAir(r)
	if r.Intn(3) > 0 {
		a.Press.Hi = min(a.Press.Hi, a.Press.Lo+r.Intn(3))
		a.Temp.Hi = min(a.Temp.Hi, a.Temp.Lo+r.Intn(2))
	}
	return a
}

// Whatever there is, overpressures are in the span that is told; and this is no wider than it has to be.
func TestP3_8Hulls(t *testing.T) {
	r := rand.New(rand.NewSource(48))
	count := map[bool]int{}
	for i := range 3000 {
		a := narrow(r)
		h := someHull(r, a, []int{3, 500, mostRoom}[i%3])
		if i%2 == 0 {
			h.Warm.Hi = h.Warm.Lo
		}
		x := allOver(r, h, a)
		if s, e := gas.Over(h, a); s != x.span() || e != api.OK {
			t.Error("over", h, a, s, e)
		}
		want := holds(h, x)
		count[want]++
		if is, e := gas.Holds(h, a); is != want || e != api.OK {
			t.Error("holds", h, a, is, e)
		}
	}
	if min(count[true], count[false]) < 200 {
		t.Error("hardly any of a kind:", count)
	}
}

// A hull holds exactly with the amounts that Blow tells.
func TestP3_11Blow(t *testing.T) {
	r := rand.New(rand.NewSource(311))
	count := map[api.Errno]int{}
	for range 3000 {
		a := narrow(r)
		h := someHull(r, a, 60)
		h.Warm.Hi = min(h.Warm.Hi, h.Warm.Lo+r.Intn(4))
		s, e := gas.Blow(h, a)
		count[e]++
		if e != api.OK && (e != api.ErrNone || s != (api.Span{})) || e == api.OK && (s.Lo < 0 || s.Lo > s.Hi || s.Hi > h.Bag) {
			t.Fatal(h, a, s, e)
		}
		for n := range h.Bag + 1 {
			h.Ballonet = n
			want := e == api.OK && s.Lo <= n && n <= s.Hi
			if is, held := gas.Holds(h, a); is != want || held != api.OK {
				t.Fatal(h, a, s, e, is)
			}
		}
	}
	if min(count[api.OK], count[api.ErrNone]) < 300 {
		t.Error("hardly any of a kind:", count)
	}
}

// The same with amounts of any size, at the ends of what Blow tells.
func TestP3_11BlowLarge(t *testing.T) {
	r := rand.New(rand.NewSource(312))
	told := 0
	for range 2500 {
		a := narrow(r)
		h := someHull(r, a, mostRoom)
		s, e := gas.Blow(h, a)
		tries := []int{s.Lo - 1, s.Lo, (s.Lo + s.Hi) / 2, s.Hi, s.Hi + 1}
		if e != api.OK {
			tries = []int{0, h.Ballonet, h.Bag, r.Intn(h.Bag + 1)}
		} else {
			told++
		}
		for _, n := range tries {
			if n < 0 || n > h.Bag {
				continue
			}
			h.Ballonet = n
			want := e == api.OK && s.Lo <= n && n <= s.Hi
			if is := holds(h, allOver(r, h, a)); is != want {
				t.Fatal(h, a, s, e, is)
			}
		}
	}
	if told < 150 {
		t.Error("hardly any amount is told:", told)
	}
}

// At the Roof some amount keeps a hull, at no pressure below it does any.
func TestP3_4Roof(t *testing.T) {
	r := rand.New(rand.NewSource(34))
	count := map[api.Errno]int{}
	for i := range 40 {
		a := narrow(r)
		h := someHull(r, a, []int{3, 60, mostRoom}[i%3])
		h.Warm.Hi = min(h.Warm.Hi, h.Warm.Lo+r.Intn(2))
		want, wantE := 0, api.ErrNone
		for p := api.MinPress; p <= api.MaxPress && wantE != api.OK; p++ {
			if _, e := gas.Blow(h, air(only(p), a.Temp)); e == api.OK {
				want, wantE = p, api.OK
			}
		}
		count[wantE]++
		if n, e := gas.Roof(h, a.Temp); n != want || e != wantE {
			t.Error(h, a, n, e, "instead of", want, wantE)
		}
	}
	if min(count[api.OK], count[api.ErrNone]) < 5 {
		t.Error("hardly any of a kind:", count)
	}
}

// Just one pressure in a hundred, and not the first one that the gas leaves open.
func TestP3_4RoofGaps(t *testing.T) {
	// A unit in the ballonet is 1500 of pressure.
	h := api.Hull{Room: 1, Bag: 9, Least: 0, Most: 0}
	for _, x := range []struct{ gas, least, want int }{{0, 0, 1500}, {1, 0, 1500}, {1, 400, 1100}, {0, 1, 1499}, {0, 500, 1000}, {2, 500, 2500}, {2, 0, 3000}} {
		h.Gas, h.Least, h.Most = x.gas, x.least, x.least
		if n, e := gas.Roof(h, only(1500)); n != x.want || e != api.OK {
			t.Error(x, n, e)
		}
	}
	// With a superheat a unit of the gas is 1501, and only some pressures are whole ones.
	h = api.Hull{Room: 2, Gas: 1, Warm: only(1), Bag: 9}
	if n, e := gas.Roof(h, only(1500)); n != 0 || e != api.ErrNone {
		t.Error(n, e)
	}
	h.Gas = 2
	if n, e := gas.Roof(h, only(1500)); n != 1501 || e != api.OK {
		t.Error(n, e)
	}
	// The last pressure, and none after it.
	h = api.Hull{Room: 1, Gas: 5, Warm: only(0), Bag: 9, Most: 500}
	if n, e := gas.Roof(h, only(2500)); n != 12000 || e != api.OK {
		t.Error(n, e)
	}
	if n, e := gas.Roof(h, only(2501)); n != 0 || e != api.ErrNone {
		t.Error(n, e)
	}
	h.Gas = 0
	if n, e := gas.Roof(h, only(2500)); n != 2000 || e != api.OK {
		t.Error(n, e)
	}
}
