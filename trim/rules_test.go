package trim_test

import (
	"math"
	"math/rand"
	"slices"
	"testing"

	"ballonet/api"
	"ballonet/trim"
)

// roomy returns a list with room behind it, in which there is something else.
func roomy[T any](l []T, behind T) []T {
	return append(slices.Clone(l), slices.Repeat([]T{behind}, 5)...)[:len(l)]
}

// watched returns a roomy list, and adds what checks that all of its memory is as it was.
func watched[T comparable](t *testing.T, checks *[]func(), l []T, behind T) []T {
	l = roomy(l, behind)
	before := slices.Clone(l[:cap(l)])
	*checks = append(*checks, func() {
		if !slices.Equal(l[:cap(l)], before) {
			t.Error("changed", before, "to", l[:cap(l)])
		}
	})
	return l
}

// callAll calls all functions with a cargo and more.
func callAll(c cargo, bags []api.Put, frames []api.Frame, puts []api.Put, stow []int) {
	trim.CheckLoads(c.l)
	trim.CheckLimits(c.limits)
	trim.CheckFrames(frames)
	trim.Balance(c.l)
	trim.Worst(c.l, limit(1, 2, 3))
	trim.Breach(c.l, c.limits)
	trim.CheckBreach(c.l, c.limits, api.Breach{Puts: puts})
	trim.Shear(c.l, 3)
	trim.Bend(c.l, 3)
	trim.Strained(c.l, frames)
	trim.Drop(c.l, bags, c.limits)
	c.check(stow)
	c.stow()
}

// R3: arguments are only read, also what is behind their lists.
func TestP1Untouched(t *testing.T) {
	r := rand.New(rand.NewSource(41))
	for range 300 {
		var checks []func()
		c := someCargo(r)
		stow := watched(t, &checks, make([]int, len(c.parcels)), 3)
		puts := watched(t, &checks, worst(c.l, limit(1, 1, 1)), put(9, 9))
		bags := watched(t, &checks, []api.Put{put(2, 1), put(1, 5), put(-3, 1)}[:r.Intn(4)], put(7, -7))
		frames := watched(t, &checks, someFrames(r, 3), frame(7, -7, -7))
		c.l = watched(t, &checks, c.l, load(span(1, 0), span(7, 6)))
		c.holds = watched(t, &checks, c.holds, hold(7, -7))
		c.parcels = watched(t, &checks, c.parcels, parcel(-7, 7))
		c.rules = watched(t, &checks, c.rules, rule(7, 7, -7))
		c.limits = watched(t, &checks, c.limits, limit(-7, 7, 7))
		callAll(c, bags, frames, puts, stow)
		for _, check := range checks {
			check()
		}
	}
}

// again checks that a result that is written over, with its room, is not in that of another call.
func again[T comparable](t *testing.T, name string, call func() []T, with T) {
	t.Helper()
	first := call()
	want := slices.Clone(first)
	for i := range first[:cap(first)] {
		first[:cap(first)][i] = with
	}
	if got := call(); !slices.Equal(got, want) || len(want) == 0 {
		t.Error(name, got, "want", want)
	}
}

// R3: results share no memory with arguments, nor with the results of other calls.
func TestP1NewMemory(t *testing.T) {
	l, limits := plain(), []api.Limit{limit(1, 0, 5)}
	again(t, "Worst", func() []api.Put { _, c, _ := trim.Worst(l, limits[0]); return c }, put(7, 7))
	again(t, "Breach", func() []api.Put { b, _ := trim.Breach(l, limits); return b.Puts }, put(7, 7))
	again(t, "Strained", func() []int { n, _ := trim.Strained(l, []api.Frame{{At: 9}}); return n }, 7)
	bags := []api.Put{put(0, 6), put(20, 3)}
	again(t, "Drop", func() []int { n, _ := trim.Drop(l, bags, []api.Limit{limit(1, 0, 14)}); return n }, 7)
	c := small(rule(1, 1, 1))
	again(t, "Stow", func() []int { n, _ := c.stow(); return n }, 7)
	if !slices.Equal(l, plain()) || !slices.Equal(bags, []api.Put{put(0, 6), put(20, 3)}) || !slices.Equal(c.parcels, small().parcels) {
		t.Error("changed", l, bags, c)
	}
}

// R4: lists that are nil and lists that are empty are the same.
func TestP1Empty(t *testing.T) {
	for _, l := range [][]api.Load{nil, {}, make([]api.Load, 0, 9)} {
		if e := trim.CheckLoads(l); e != api.OK {
			t.Error(e)
		}
		if heavy, moment, e := trim.Balance(l); heavy != only(0) || moment != only(0) || e != api.OK {
			t.Error(heavy, moment, e)
		}
		if b, e := trim.Breach(l, []api.Limit{}); e != api.ErrNone || len(b.Puts) > 0 {
			t.Error(b, e)
		}
		for _, puts := range [][]api.Put{nil, {}, make([]api.Put, 0, 9)} {
			if e := trim.CheckBreach(l, []api.Limit{{C: -1}}, api.Breach{Puts: puts}); e != api.OK {
				t.Error(e)
			}
			if n, e := trim.Drop(l, puts, []api.Limit{}); len(n) > 0 || e != api.OK {
				t.Error(n, e)
			}
		}
		if n, e := trim.Strained(l, []api.Frame{}); len(n) > 0 || e != api.OK {
			t.Error(n, e)
		}
		for _, stow := range [][]int{nil, {}, make([]int, 0, 9)} {
			if e := trim.CheckStow(l, []api.Hold{}, []api.Parcel{}, []api.Rule{}, []api.Limit{}, stow); e != api.OK {
				t.Error(e)
			}
		}
		if n, e := trim.Stow(l, []api.Hold{}, []api.Parcel{}, []api.Rule{}, []api.Limit{}); len(n) > 0 || e != api.OK {
			t.Error(n, e)
		}
	}
}

// wild returns any number, most often one at which something overflows or ends.
func wild(r *rand.Rand) int {
	base := []int{0, 0, 1, 5, 9, api.MaxStation, api.MaxWeight, api.MaxFactor, api.MaxSide, api.MaxShear, api.MaxBend, api.MaxBag, 1 << 31, 1 << 32, 1 << 62, math.MaxInt, math.MinInt}
	n := base[r.Intn(len(base))] + r.Intn(3) - 1
	if r.Intn(2) == 0 {
		return -n
	}
	return n
}

// wildOne puts something wild into one of some numbers, now and then.
func wildOne(r *rand.Rand, n ...*int) {
	if r.Intn(8) == 0 {
		*n[r.Intn(len(n))] = wild(r)
	}
}

// wildLength makes a list much longer, now and then.
func wildLength[T any](r *rand.Rand, l []T) []T {
	if len(l) == 0 || r.Intn(20) > 0 {
		return l
	}
	return slices.Repeat(l, 1+r.Intn(60))
}

func wildCargo(r *rand.Rand) cargo {
	c := someCargo(r)
	for i := range c.l {
		wildOne(r, &c.l[i].At.Lo, &c.l[i].At.Hi, &c.l[i].Weight.Lo, &c.l[i].Weight.Hi)
	}
	for i := range c.holds {
		wildOne(r, &c.holds[i].At, &c.holds[i].Room)
	}
	for i := range c.parcels {
		wildOne(r, &c.parcels[i].Weight, &c.parcels[i].Class)
	}
	for i := range c.rules {
		wildOne(r, &c.rules[i].A, &c.rules[i].B, &c.rules[i].Apart)
	}
	for i := range c.limits {
		wildOne(r, &c.limits[i].A, &c.limits[i].B, &c.limits[i].C)
	}
	c.l, c.holds, c.parcels = wildLength(r, c.l), wildLength(r, c.holds), wildLength(r, c.parcels)
	c.rules, c.limits = wildLength(r, c.rules), wildLength(r, c.limits)
	return c
}

// checker notes what is not as it has to be: what is returned is valid, and nothing is beside an error.
type checker struct {
	t   *testing.T
	oks map[string]int
}

func (c checker) check(name string, e api.Errno, valid, zero bool) {
	c.t.Helper()
	if e == api.OK {
		c.oks[name]++
	}
	if e == api.OK && !valid || e != api.OK && !zero {
		c.t.Error(name, e, valid, zero)
	}
}

// R2, R5, R6 and R7: whatever the arguments are, every call ends without a panic; what it returns is valid; and nothing is beside an error.
func TestP1Wild(t *testing.T) {
	r := rand.New(rand.NewSource(42))
	k := checker{t, map[string]int{}}
	inOrder := func(s api.Span, most int) bool { return -most <= s.Lo && s.Lo <= s.Hi && s.Hi <= most }
	for range 6000 {
		c := wildCargo(r)
		heavy, moment, e := trim.Balance(c.l)
		k.check("Balance", e, inOrder(heavy, 1<<36) && inOrder(moment, 1<<50), heavy == only(0) && moment == only(0))
		x := limit(r.Intn(9)-4, r.Intn(9)-4, 0)
		wildOne(r, &x.A, &x.B, &x.C)
		n, puts, e := trim.Worst(c.l, x)
		k.check("Worst", e, len(puts) == len(c.l) && n == value(x, puts), n == 0 && len(puts) == 0)
		b, e := trim.Breach(c.l, c.limits)
		k.check("Breach", e, trim.CheckBreach(c.l, c.limits, b) == api.OK, b.Limit == 0 && len(b.Puts) == 0)
		wildOne(r, &b.Limit)
		if len(b.Puts) > 0 {
			wildOne(r, &b.Puts[0].At, &b.Puts[0].Weight)
		}
		e = trim.CheckBreach(c.l, c.limits, b)
		k.check("CheckBreach", e, b.Limit >= 0 && b.Limit < len(c.limits) && value(c.limits[b.Limit], b.Puts) > c.limits[b.Limit].C, true)
		at := r.Intn(30) - 15
		wildOne(r, &at)
		s, e := trim.Shear(c.l, at)
		k.check("Shear", e, inOrder(s, 1<<36), s == only(0))
		s, e = trim.Bend(c.l, at)
		k.check("Bend", e, inOrder(s, 1<<51), s == only(0))
		k.wildLists(r, c)
	}
	for _, name := range []string{"Balance", "Worst", "Breach", "CheckBreach", "Shear", "Bend", "Strained", "Drop", "CheckStow", "Stow"} {
		if k.oks[name] < 100 {
			t.Error("hardly anything is valid:", k.oks)
		}
	}
}

// wildLists goes on with frames, bags and stowages.
func (k checker) wildLists(r *rand.Rand, c cargo) {
	frames := someFrames(r, 3)
	wildOne(r, &frames[0].At, &frames[1].Shear, &frames[2].Bend)
	n, e := trim.Strained(c.l, frames)
	k.check("Strained", e, slices.IsSorted(n), len(n) == 0)
	bags := slices.Repeat([]api.Put{put(r.Intn(9)-4, 1+r.Intn(5))}, r.Intn(6))
	for i := range bags {
		wildOne(r, &bags[i].At, &bags[i].Weight)
	}
	n, e = trim.Drop(c.l, wildLength(r, bags), c.limits)
	k.check("Drop", e, slices.IsSorted(n), len(n) == 0)
	n, e = c.stow()
	k.check("Stow", e, c.check(n) == api.OK, len(n) == 0)
	stow := make([]int, len(c.parcels))
	for i := range stow {
		stow[i] = r.Intn(max(len(c.holds), 1))
		wildOne(r, &stow[i])
	}
	e = c.check(stow)
	k.check("CheckStow", e, !slices.ContainsFunc(stow, func(h int) bool { return h < 0 || h >= len(c.holds) }), true)
}

// R5: numbers of any size lead to the error that is named for them, also beside others that would make up for them.
func TestP1Sizes(t *testing.T) {
	for _, x := range []struct {
		l    []api.Load
		want api.Errno
	}{
		{[]api.Load{load(only(0), only(math.MaxInt)), load(only(0), only(-math.MaxInt))}, api.ErrLoad},
		{[]api.Load{load(only(math.MinInt), only(0))}, api.ErrLoad},
		{[]api.Load{load(span(math.MinInt, math.MaxInt), only(0))}, api.ErrLoad},
	} {
		if heavy, moment, e := trim.Balance(x.l); e != x.want || heavy != only(0) || moment != only(0) {
			t.Error(x.l, heavy, moment, e)
		}
	}
	big := cargo{holds: []api.Hold{hold(0, api.MaxWeight)}, parcels: []api.Parcel{parcel(math.MaxInt, 0), parcel(math.MaxInt, 0), parcel(2, 0)}}
	refuse(t, big, api.ErrHold)
	if n, e := trim.Drop(nil, []api.Put{put(0, math.MaxInt), put(0, math.MaxInt)}, nil); e != api.ErrLoad || len(n) > 0 {
		t.Error(n, e)
	}
}
