package trim_test

import (
	"math"
	"math/rand"
	"slices"
	"testing"

	"ballonet/api"
	"ballonet/trim"
)

func hold(at, room int) api.Hold { return api.Hold{At: at, Room: room} }

func parcel(weight, class int) api.Parcel { return api.Parcel{Weight: weight, Class: class} }

func rule(a, b, apart int) api.Rule { return api.Rule{A: a, B: b, Apart: apart} }

// cargo is what is stowed.
type cargo struct {
	l       []api.Load
	holds   []api.Hold
	parcels []api.Parcel
	rules   []api.Rule
	limits  []api.Limit
}

func (c cargo) check(stow []int) api.Errno {
	return trim.CheckStow(c.l, c.holds, c.parcels, c.rules, c.limits, stow)
}

func (c cargo) stow() ([]int, api.Errno) {
	return trim.Stow(c.l, c.holds, c.parcels, c.rules, c.limits)
}

// small is the holds and the parcels of the chapter's example, with rules.
func small(rules ...api.Rule) cargo {
	return cargo{
		holds: []api.Hold{hold(-30, 10), hold(30, 10)}, parcels: []api.Parcel{parcel(6, 1), parcel(5, 2), parcel(4, 1)}, rules: rules,
	}
}

// four is four holds with room for all, and a parcel of the class 0, 1, .. for each class that is named.
func four(rules []api.Rule, classes ...int) cargo {
	c := cargo{holds: []api.Hold{hold(-20, 99), hold(-10, 99), hold(10, 99), hold(20, 99)}, rules: rules}
	for _, class := range classes {
		c.parcels = append(c.parcels, parcel(1, class))
	}
	return c
}

// limited returns a cargo with limits.
func (c cargo) limited(limits ...api.Limit) cargo {
	c.limits = limits
	return c
}

// loaded returns a cargo with loads.
func (c cargo) loaded(l ...api.Load) cargo {
	c.l = l
	return c
}

func TestP4_5Stow(t *testing.T) {
	for i, x := range []struct {
		c    cargo
		want []int
		e    api.Errno
	}{
		{small(), []int{0, 1, 0}, api.OK},
		{small(rule(1, 1, 1)), []int{0, 1, 1}, api.OK},
		{small(rule(1, 1, 1), rule(1, 2, 1)), nil, api.ErrNone},
		{small(rule(1, 1, 1), rule(2, 1, 1)), nil, api.ErrNone},
		{small(rule(2, 1, 1)), []int{0, 1, 0}, api.OK},
		{small(rule(2, 2, 5), rule(3, 1, 5), rule(9, 0, 5)), []int{0, 1, 0}, api.OK},
		{small(rule(1, 1, 2)), nil, api.ErrNone},
		// As many holds as a rule says are far enough.
		{four([]api.Rule{rule(1, 2, 3)}, 1, 2), []int{0, 3}, api.OK},
		{four([]api.Rule{rule(2, 1, 3)}, 1, 2), []int{0, 3}, api.OK},
		{four([]api.Rule{rule(1, 2, 4)}, 1, 2), nil, api.ErrNone},
		{four([]api.Rule{rule(1, 2, 2)}, 1, 2), []int{0, 2}, api.OK},
		{four([]api.Rule{rule(1, 2, 2), rule(1, 3, 1), rule(3, 2, 1)}, 1, 3, 2), []int{0, 1, 2}, api.OK},
		{four([]api.Rule{rule(1, 2, 3), rule(3, 2, 3)}, 1, 3, 2), []int{0, 0, 3}, api.OK},
		{four([]api.Rule{rule(1, 2, 1), rule(1, 2, 3), rule(1, 2, 2)}, 2, 1), []int{0, 3}, api.OK},
		// One parcel alone is not too near to itself.
		{four([]api.Rule{rule(1, 1, 5)}, 1), []int{0}, api.OK},
		{four(nil, 1, 1, 1), []int{0, 0, 0}, api.OK},
		// The bow has to be heavy by 10, and by 60.
		{four(nil, 1).limited(limit(0, -1, -10)), []int{2}, api.OK},
		{four(nil, 1, 1, 1).limited(limit(0, -1, -60)), []int{3, 3, 3}, api.OK},
		{four(nil, 1, 1, 1).limited(limit(0, -1, -61)), nil, api.ErrNone},
		{four(nil, 1, 1, 1).limited(limit(0, -1, -50)), []int{2, 3, 3}, api.OK},
		{four([]api.Rule{rule(1, 1, 1)}, 1, 1).limited(limit(0, -1, 0), limit(0, 1, 0)), []int{0, 3}, api.OK},
		{four(nil, 1, 1).limited(limit(1, 0, 2)), []int{0, 0}, api.OK},
		{four(nil, 1, 1).limited(limit(1, 0, 1)), nil, api.ErrNone},
		{four(nil, 1, 1).limited(limit(1, 0, 2)).loaded(load(only(0), span(-1, 1))), nil, api.ErrNone},
		{four(nil, 1, 1).limited(limit(1, 0, 3)).loaded(load(only(0), span(-1, 1))), []int{0, 0}, api.OK},
		{four(nil, 1).limited(limit(0, 1, 0), limit(0, -1, 20)).loaded(load(span(-1, 1), only(10))), []int{1}, api.OK},
		// No parcels, no holds.
		{cargo{}, nil, api.OK},
		{four([]api.Rule{rule(1, 1, 5)}), nil, api.OK},
		{four(nil).limited(limit(0, 0, -1)), nil, api.ErrNone},
		{cargo{}.limited(limit(1, 0, 7)).loaded(load(only(0), only(8))), nil, api.ErrNone},
		{cargo{}.limited(limit(1, 0, 8)).loaded(load(only(0), only(8))), nil, api.OK},
		{cargo{parcels: []api.Parcel{parcel(1, 0)}}, nil, api.ErrNone},
		{cargo{holds: []api.Hold{hold(0, 0)}, parcels: []api.Parcel{parcel(1, 0)}}, nil, api.ErrNone},
		{cargo{holds: []api.Hold{hold(0, 0), hold(0, 1)}, parcels: []api.Parcel{parcel(1, 0)}}, []int{1}, api.OK},
	} {
		if l, e := x.c.stow(); !slices.Equal(l, x.want) || e != x.e {
			t.Error(i, l, e, "want", x.want, x.e)
		}
	}
}

func TestP4_5CheckStow(t *testing.T) {
	for i, x := range []struct {
		c    cargo
		stow []int
		want api.Errno
	}{
		{small(), []int{0, 1, 0}, api.OK},
		{small(), []int{1, 0, 0}, api.OK},
		{small(), []int{0, 1}, api.ErrArg},
		{small(), nil, api.ErrArg},
		{small(), []int{0, 1, 0, 0}, api.ErrArg},
		{small(), []int{0, 1, 2}, api.ErrArg},
		{small(), []int{-1, 1, 0}, api.ErrArg},
		{small(), []int{0, math.MaxInt, 0}, api.ErrArg},
		{small(), []int{0, 1, math.MinInt}, api.ErrArg},
		{small(), []int{0, 0, 1}, api.ErrRoom},
		{small(), []int{1, 1, 0}, api.ErrRoom},
		{small(), []int{0, 0, 0}, api.ErrRoom},
		{small(rule(1, 1, 1)), []int{0, 1, 0}, api.ErrNear},
		{small(rule(1, 1, 1)), []int{0, 1, 1}, api.OK},
		{small(rule(1, 2, 1)), []int{0, 1, 1}, api.ErrNear},
		{small(rule(2, 1, 1)), []int{0, 1, 1}, api.ErrNear},
		{small(rule(1, 2, 1)), []int{0, 1, 0}, api.OK},
		// What is named first is told first.
		{small(rule(1, 1, 1)).limited(limit(0, 0, -1)), []int{0, 0, 2}, api.ErrArg},
		{small(rule(1, 1, 1)).limited(limit(0, 0, -1)), []int{0, 0, 0}, api.ErrRoom},
		{small(rule(1, 1, 1)).limited(limit(0, 0, -1)), []int{0, 1, 0}, api.ErrNear},
		{small(rule(1, 1, 1)).limited(limit(0, 0, -1)), []int{0, 1, 1}, api.ErrTrim},
		// The moment of 0 1 0 is -150, and that of 0 1 1 is 90.
		{small().limited(limit(0, 1, -150), limit(0, -1, 150)), []int{0, 1, 0}, api.OK},
		{small().limited(limit(0, 1, -151)), []int{0, 1, 0}, api.ErrTrim},
		{small().limited(limit(9, 9, 9999), limit(0, -1, 149)), []int{0, 1, 0}, api.ErrTrim},
		{small().limited(limit(0, 1, 90)), []int{0, 1, 1}, api.OK},
		{small().limited(limit(0, 1, 89)), []int{0, 1, 1}, api.ErrTrim},
		{small().limited(limit(1, 0, 15)), []int{0, 1, 1}, api.OK},
		{small().limited(limit(1, 0, 14)), []int{0, 1, 1}, api.ErrTrim},
		{small().limited(limit(1, 0, 25)).loaded(plain()...), []int{0, 1, 1}, api.OK},
		{small().limited(limit(1, 0, 24)).loaded(plain()...), []int{0, 1, 1}, api.ErrTrim},
		{cargo{}, nil, api.OK},
		{cargo{}, []int{0}, api.ErrArg},
		{cargo{}.limited(limit(0, 0, -1)), nil, api.ErrTrim},
		{cargo{parcels: []api.Parcel{parcel(1, 0)}}, []int{0}, api.ErrArg},
		{cargo{holds: []api.Hold{hold(0, 0)}, parcels: []api.Parcel{parcel(1, 0)}}, []int{0}, api.ErrRoom},
	} {
		if e := x.c.check(x.stow); e != x.want {
			t.Error(i, e, "want", x.want)
		}
	}
}

// refuse checks that CheckStow and Stow return an error for a cargo, also if the stowage is none.
func refuse(t *testing.T, c cargo, want api.Errno) {
	t.Helper()
	for _, stow := range [][]int{nil, {0}, {-1}, slices.Repeat([]int{0}, len(c.parcels))} {
		if e := c.check(stow); e != want {
			t.Error(c, stow, e, "want", want)
		}
	}
	if l, e := c.stow(); e != want || len(l) > 0 {
		t.Error(c, l, e, "want", want)
	}
}

func TestP4_5Errors(t *testing.T) {
	full := cargo{
		l:       make([]api.Load, 34),
		holds:   slices.Repeat([]api.Hold{hold(-api.MaxStation, api.MaxWeight), hold(api.MaxStation, api.MaxWeight)}, 3)[:5],
		parcels: slices.Repeat([]api.Parcel{parcel(api.MaxBag, 9)}, 6),
		rules:   slices.Repeat([]api.Rule{rule(0, 0, 5), rule(9, 0, 1)}, 10),
	}
	if l, e := full.stow(); e != api.OK || !slices.Equal(l, make([]int, 6)) {
		t.Error(l, e)
	}
	if e := full.check([]int{4, 3, 2, 1, 0, 4}); e != api.OK {
		t.Error(e)
	}
	for _, f := range []func(c *cargo){
		func(c *cargo) { c.l = make([]api.Load, 35) },
		func(c *cargo) { c.l, c.parcels = make([]api.Load, 40), c.parcels[:1] },
		func(c *cargo) { c.holds = slices.Repeat(c.holds[:1], 6) },
		func(c *cargo) { c.l, c.parcels = nil, slices.Repeat(c.parcels[:1], 7) },
		func(c *cargo) { c.rules = slices.Repeat(c.rules[:1], 21) },
	} {
		c := full
		f(&c)
		refuse(t, c, api.ErrMany)
		// Of what is too much and what is bad, the first one is told.
		c.rules = slices.Repeat([]api.Rule{{}}, max(len(c.rules), 1))
		refuse(t, c, api.ErrMany)
	}
	for _, n := range beyond(-api.MaxStation, api.MaxStation) {
		refuse(t, cargo{holds: []api.Hold{hold(0, 5), hold(n, 5)}}, api.ErrHold)
	}
	for _, n := range beyond(0, api.MaxWeight) {
		refuse(t, cargo{holds: []api.Hold{hold(0, n)}}, api.ErrHold)
	}
	for _, n := range append(beyond(1, api.MaxBag), -1) {
		refuse(t, cargo{holds: []api.Hold{hold(0, 5)}, parcels: []api.Parcel{parcel(1, 0), parcel(n, 0)}}, api.ErrHold)
	}
	for _, n := range beyond(0, api.MaxClass) {
		refuse(t, cargo{parcels: []api.Parcel{parcel(1, n)}}, api.ErrHold)
		refuse(t, cargo{rules: []api.Rule{rule(n, 0, 1)}}, api.ErrHold)
		refuse(t, cargo{rules: []api.Rule{rule(0, 9, 5), rule(0, n, 1)}}, api.ErrHold)
	}
	for _, n := range append(beyond(1, api.MaxHolds), -1) {
		refuse(t, cargo{rules: []api.Rule{rule(0, 0, n)}}, api.ErrHold)
	}
}

// wrong returns what is wrong with a stowage, as the chapter tells it.
func (c cargo) wrong(stow []int) api.Errno {
	weights, all := make([]int, len(c.holds)), slices.Clone(c.l)
	for i, h := range stow {
		weights[h] += c.parcels[i].Weight
		all = append(all, exact(put(c.holds[h].At, c.parcels[i].Weight)))
	}
	for h, weight := range weights {
		if weight > c.holds[h].Room {
			return api.ErrRoom
		}
	}
	for _, r := range c.rules {
		for i, p := range c.parcels {
			for j, q := range c.parcels {
				if i != j && p.Class == r.A && q.Class == r.B && stow[i]-stow[j] < r.Apart && stow[j]-stow[i] < r.Apart {
					return api.ErrNear
				}
			}
		}
	}
	if !keepsAll(all, c.limits) {
		return api.ErrTrim
	}
	return api.OK
}

func someCargo(r *rand.Rand) cargo {
	c := cargo{l: someLoads(r, 2, 3), limits: someLimits(r, 2)}
	for range r.Intn(5) {
		c.holds = append(c.holds, hold(r.Intn(11)-5, r.Intn(20)))
	}
	for range r.Intn(5) {
		c.parcels = append(c.parcels, parcel(1+r.Intn(6), r.Intn(3)))
	}
	for range r.Intn(4) {
		c.rules = append(c.rules, rule(r.Intn(3), r.Intn(3), 1+r.Intn(3)))
	}
	return c
}

// P4.10: a stowage that is found has no error, and each one before it has one.
func TestP4_10First(t *testing.T) {
	r := rand.New(rand.NewSource(31))
	seen, found := map[api.Errno]int{}, 0
	for range 600 {
		c := someCargo(r)
		first, e := c.stow()
		if e != api.OK && (e != api.ErrNone || len(first) > 0) {
			t.Fatal(c, first, e)
		}
		if e == api.OK {
			found++
		}
		for stow := range stowages(len(c.holds), len(c.parcels)) {
			want := c.wrong(stow)
			if got := c.check(stow); got != want {
				t.Fatal(c, stow, got, "want", want)
			}
			seen[want]++
			before := e != api.OK || slices.Compare(stow, first) < 0
			if before && want == api.OK || want != api.OK && slices.Equal(stow, first) && e == api.OK {
				t.Fatal(c, first, e, stow, want)
			}
		}
	}
	if found < 100 || found > 500 || seen[api.OK] < 100 || seen[api.ErrRoom] < 100 || seen[api.ErrNear] < 100 || seen[api.ErrTrim] < 100 {
		t.Error("hardly anything is found, or refused:", found, seen)
	}
}

// stowages yields all stowages in lexicographic order.
func stowages(holds, parcels int) func(yield func(stow []int) bool) {
	return func(yield func(stow []int) bool) {
		all := 1
		for range parcels {
			all *= holds
		}
		for n := range all {
			stow := make([]int, parcels)
			for i := range stow {
				stow[parcels-1-i] = n % holds
				n /= holds
			}
			if !yield(stow) {
				return
			}
		}
	}
}

// P4.10: the last of all stowages is found too, with the most holds and parcels.
func TestP4_10Last(t *testing.T) {
	holds := make([]api.Hold, 5)
	for i := range holds {
		holds[i] = hold(i*100, api.MaxWeight)
	}
	parcels := slices.Repeat([]api.Parcel{parcel(api.MaxBag, 0)}, 6)
	c := cargo{holds: holds, parcels: parcels}.limited(limit(0, -1, -6*400*api.MaxBag))
	if l, e := c.stow(); e != api.OK || !slices.Equal(l, []int{4, 4, 4, 4, 4, 4}) {
		t.Error(l, e)
	}
	c.limits[0].C--
	if l, e := c.stow(); e != api.ErrNone || len(l) > 0 {
		t.Error(l, e)
	}
}
