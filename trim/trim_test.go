package trim_test

import (
	"iter"
	"math"
	"math/big"
	"math/rand"
	"slices"
	"testing"

	"ballonet/api"
	"ballonet/trim"
)

func span(lo, hi int) api.Span { return api.Span{Lo: lo, Hi: hi} }

func only(n int) api.Span { return span(n, n) }

func load(at, weight api.Span) api.Load { return api.Load{At: at, Weight: weight} }

func put(at, weight int) api.Put { return api.Put{At: at, Weight: weight} }

func limit(a, b, c int) api.Limit { return api.Limit{A: a, B: b, C: c} }

// plain is the loads of the chapter's examples.
func plain() []api.Load {
	return []api.Load{load(only(-10), only(100)), load(only(10), span(-120, -90))}
}

// walker is the passenger of the chapter's examples.
func walker() []api.Load { return []api.Load{load(span(-100, 50), only(8))} }

// beyond returns numbers that are not from least to most.
func beyond(least, most int) []int {
	return []int{least - 1, most + 1, least - 1<<32, most + 1<<32, math.MinInt, math.MaxInt}
}

// badSpans returns spans that are not within least to most, or not in order.
func badSpans(least, most int) []api.Span {
	bad := []api.Span{span(least+1, least), span(most, most-1), span(most, least), span(math.MaxInt, math.MinInt)}
	for _, n := range beyond(least, most) {
		bad = append(bad, only(n), span(n, most), span(least, n))
	}
	return bad
}

func goodLoads() []api.Load {
	at, weight := span(-api.MaxStation, api.MaxStation), span(-api.MaxWeight, api.MaxWeight)
	return []api.Load{
		{}, load(at, weight), load(only(at.Lo), only(weight.Lo)), load(only(at.Hi), only(weight.Hi)),
		load(only(at.Lo), only(weight.Hi)), load(span(-1, 0), span(0, 1)),
	}
}

func badLoads() []api.Load {
	var bad []api.Load
	for _, s := range badSpans(-api.MaxStation, api.MaxStation) {
		bad = append(bad, load(s, only(0)), load(s, only(5)))
	}
	for _, s := range badSpans(-api.MaxWeight, api.MaxWeight) {
		bad = append(bad, load(only(0), s), load(only(5), s))
	}
	return bad
}

func goodLimits() []api.Limit {
	most := limit(api.MaxFactor, api.MaxFactor, api.MaxSide)
	return []api.Limit{{}, most, limit(-most.A, -most.B, -most.C), limit(most.A, -most.B, 5), limit(0, 0, -1)}
}

func badLimits() []api.Limit {
	var bad []api.Limit
	for _, n := range beyond(-api.MaxFactor, api.MaxFactor) {
		bad = append(bad, limit(n, 0, 0), limit(0, n, 0))
	}
	for _, n := range beyond(-api.MaxSide, api.MaxSide) {
		bad = append(bad, limit(0, 0, n))
	}
	return bad
}

// lists checks a function that checks a list: what is good, what is bad, and how much is too much.
func lists[T any](t *testing.T, check func(l []T) api.Errno, good, bad []T, most int, isBad api.Errno) {
	t.Helper()
	for n := range most + 1 {
		if e := check(slices.Repeat(good[:1], n)); e != api.OK {
			t.Error(n, e)
		}
	}
	if e := check(good); e != api.OK {
		t.Error(good, e)
	}
	for i, x := range good {
		if e := check([]T{x}); e != api.OK {
			t.Error(i, x, e)
		}
	}
	for i, x := range bad {
		for _, l := range [][]T{{x}, {x, good[0]}, {good[0], good[1], x}, slices.Repeat([]T{x}, most)} {
			if e := check(l); e != isBad {
				t.Error(i, l, e)
			}
		}
		if e := check(slices.Repeat([]T{x}, most+1)); e != api.ErrMany {
			t.Error(i, x, e)
		}
	}
	for _, n := range []int{most + 1, most + 2, 1000} {
		if e := check(slices.Repeat(good[:1], n)); e != api.ErrMany {
			t.Error(n, e)
		}
	}
}

func TestP4_1CheckLoads(t *testing.T) {
	lists(t, trim.CheckLoads, goodLoads(), badLoads(), 40, api.ErrLoad)
}

func TestP4_1CheckLimits(t *testing.T) {
	lists(t, trim.CheckLimits, goodLimits(), badLimits(), 12, api.ErrLimit)
}

// many returns a list that is too long.
func many[T any](n int) []T { return make([]T, n) }

// P4.1: the errors of loads come first, and then those of limits; and nothing is beside an error.
func TestP4_1Errors(t *testing.T) {
	badLoad, badLimit := load(span(1, 0), only(0)), limit(0, api.MaxFactor+1, 0)
	for _, x := range []struct {
		l      []api.Load
		limits []api.Limit
		want   api.Errno
	}{
		{many[api.Load](41), many[api.Limit](13), api.ErrMany},
		{many[api.Load](41), []api.Limit{badLimit}, api.ErrMany},
		{[]api.Load{badLoad}, many[api.Limit](13), api.ErrLoad},
		{[]api.Load{badLoad}, []api.Limit{badLimit}, api.ErrLoad},
		{plain(), many[api.Limit](13), api.ErrMany},
		{plain(), []api.Limit{{}, badLimit}, api.ErrLimit},
		{nil, []api.Limit{badLimit}, api.ErrLimit},
	} {
		// What comes later is wrong too.
		bags, holds := []api.Put{put(0, 0)}, []api.Hold{{Room: -1}}
		if b, e := trim.Breach(x.l, x.limits); e != x.want || b.Limit != 0 || len(b.Puts) > 0 {
			t.Error("Breach", b, e, "want", x.want)
		}
		if e := trim.CheckBreach(x.l, x.limits, api.Breach{Limit: 99}); e != x.want {
			t.Error("CheckBreach", e, "want", x.want)
		}
		if l, e := trim.Drop(x.l, bags, x.limits); e != x.want || len(l) > 0 {
			t.Error("Drop", l, e, "want", x.want)
		}
		if l, e := trim.Stow(x.l, holds, nil, nil, x.limits); e != x.want || len(l) > 0 {
			t.Error("Stow", l, e, "want", x.want)
		}
		if e := trim.CheckStow(x.l, holds, nil, nil, x.limits, []int{-1}); e != x.want {
			t.Error("CheckStow", e, "want", x.want)
		}
	}
	for _, x := range []struct {
		l    []api.Load
		want api.Errno
	}{{many[api.Load](41), api.ErrMany}, {[]api.Load{badLoad}, api.ErrLoad}} {
		if heavy, moment, e := trim.Balance(x.l); e != x.want || heavy != only(0) || moment != only(0) {
			t.Error("Balance", heavy, moment, e, "want", x.want)
		}
		if n, c, e := trim.Worst(x.l, badLimit); e != x.want || n != 0 || len(c) > 0 {
			t.Error("Worst", n, c, e, "want", x.want)
		}
		if s, e := trim.Shear(x.l, api.MaxStation+1); e != x.want || s != only(0) {
			t.Error("Shear", s, e, "want", x.want)
		}
		if s, e := trim.Bend(x.l, api.MaxStation+1); e != x.want || s != only(0) {
			t.Error("Bend", s, e, "want", x.want)
		}
		for _, frames := range [][]api.Frame{nil, {{Shear: -1}}, many[api.Frame](13)} {
			if l, e := trim.Strained(x.l, frames); e != x.want || len(l) > 0 {
				t.Error("Strained", l, e, "want", x.want)
			}
		}
	}
	for i, x := range badLimits() {
		if n, c, e := trim.Worst(plain(), x); e != api.ErrLimit || n != 0 || len(c) > 0 {
			t.Error(i, n, c, e)
		}
	}
}

func TestP4_2Balance(t *testing.T) {
	for i, x := range []struct {
		l             []api.Load
		heavy, moment api.Span
	}{
		{nil, only(0), only(0)},
		{plain(), span(-20, 10), span(-2200, -1900)},
		{walker(), only(8), span(-800, 400)},
		{[]api.Load{load(span(2, 3), span(-5, 7))}, span(-5, 7), span(-15, 21)},
		{[]api.Load{load(span(-3, -2), span(-5, 7))}, span(-5, 7), span(-21, 15)},
		{[]api.Load{load(span(-3, 2), span(-5, -4))}, span(-5, -4), span(-10, 15)},
		{[]api.Load{load(span(-3, 2), span(-5, 7))}, span(-5, 7), span(-21, 15)},
		{slices.Repeat(plain(), 20), span(-400, 200), span(-44000, -38000)},
	} {
		if heavy, moment, e := trim.Balance(x.l); heavy != x.heavy || moment != x.moment || e != api.OK {
			t.Error(i, heavy, moment, e, "want", x.heavy, x.moment)
		}
	}
}

func TestP4_2Worst(t *testing.T) {
	one := []api.Load{load(span(-3, 2), span(-5, 7))}
	for i, x := range []struct {
		l     []api.Load
		limit api.Limit
		value int
		want  []api.Put
	}{
		{plain(), limit(1, 0, 5), 10, []api.Put{put(-10, 100), put(10, -90)}},
		{plain(), limit(0, -1, 2200), 2200, []api.Put{put(-10, 100), put(10, -120)}},
		{plain(), limit(-2, 1, 0), -1920, []api.Put{put(-10, 100), put(10, -90)}},
		{plain(), limit(2, -1, 0), 2160, []api.Put{put(-10, 100), put(10, -120)}},
		{nil, limit(1000, 1000, -5), 0, nil},
		// Of corners that are as bad the first one is told.
		{one, limit(0, 0, 0), 0, []api.Put{put(-3, -5)}},
		{one, limit(1, 0, 0), 7, []api.Put{put(-3, 7)}},
		{one, limit(-1, 0, 0), 5, []api.Put{put(-3, -5)}},
		{one, limit(3, 1, 0), 35, []api.Put{put(2, 7)}},
		{[]api.Load{load(span(-3, 2), span(0, 7))}, limit(0, -1, 0), 21, []api.Put{put(-3, 7)}},
		{[]api.Load{load(span(-3, -3), span(0, 7))}, limit(0, 1, 0), 0, []api.Put{put(-3, 0)}},
		{[]api.Load{load(span(-3, 0), span(0, 7))}, limit(0, 1, 0), 0, []api.Put{put(-3, 0)}},
		{[]api.Load{load(span(-3, 0), span(-2, 7))}, limit(3, 1, 0), 21, []api.Put{put(0, 7)}},
		{[]api.Load{load(span(-1, 1), span(-2, 2))}, limit(0, 1, 0), 2, []api.Put{put(-1, -2)}},
		{[]api.Load{load(span(-1, 1), span(-2, 2))}, limit(0, -1, 0), 2, []api.Put{put(1, -2)}},
		{[]api.Load{load(span(0, 1), span(-2, -1))}, limit(0, 1, 0), 0, []api.Put{put(0, -2)}},
		{[]api.Load{load(span(1, 3), span(0, 0))}, limit(1, 1, 0), 0, []api.Put{put(1, 0)}},
	} {
		if n, c, e := trim.Worst(x.l, x.limit); n != x.value || !slices.Equal(c, x.want) || e != api.OK {
			t.Error(i, n, c, e, "want", x.value, x.want)
		}
	}
}

func TestP4_2Breach(t *testing.T) {
	light, heavy := []api.Put{put(-10, 100), put(10, -120)}, []api.Put{put(-10, 100), put(10, -90)}
	for i, x := range []struct {
		l      []api.Load
		limits []api.Limit
		want   api.Breach
		e      api.Errno
	}{
		{plain(), nil, api.Breach{}, api.ErrNone},
		{plain(), []api.Limit{limit(1, 0, 5)}, api.Breach{Puts: heavy}, api.OK},
		{plain(), []api.Limit{limit(1, 0, 9)}, api.Breach{Puts: heavy}, api.OK},
		{plain(), []api.Limit{limit(1, 0, 10), limit(0, -1, 2200)}, api.Breach{}, api.ErrNone},
		{plain(), []api.Limit{limit(1, 0, 10), limit(0, -1, 2199), limit(1, 0, 0)}, api.Breach{Limit: 1, Puts: light}, api.OK},
		{plain(), []api.Limit{limit(1, 0, 10), limit(1, 0, 0), limit(0, -1, 2199)}, api.Breach{Limit: 1, Puts: heavy}, api.OK},
		{plain(), []api.Limit{limit(-1, 0, 20), limit(0, 1, -1900)}, api.Breach{}, api.ErrNone},
		{plain(), []api.Limit{limit(-1, 0, 20), limit(0, 1, -1901)}, api.Breach{Limit: 1, Puts: heavy}, api.OK},
		{plain(), []api.Limit{limit(0, 0, 0)}, api.Breach{}, api.ErrNone},
		{plain(), []api.Limit{limit(0, 0, -1)}, api.Breach{Puts: light}, api.OK},
		// No loads have one choice, with the value 0.
		{nil, []api.Limit{limit(7, 7, 0)}, api.Breach{}, api.ErrNone},
		{nil, []api.Limit{limit(7, 7, 0), limit(7, 7, -1)}, api.Breach{Limit: 1}, api.OK},
	} {
		b, e := trim.Breach(x.l, x.limits)
		if b.Limit != x.want.Limit || !slices.Equal(b.Puts, x.want.Puts) || e != x.e {
			t.Error(i, b, e, "want", x.want, x.e)
		}
	}
}

func TestP4_2CheckBreach(t *testing.T) {
	limits := []api.Limit{limit(1, 0, 5), limit(0, 1, -2000), limit(1, 0, 10)}
	for i, x := range []struct {
		limit int
		puts  []api.Put
		want  api.Errno
	}{
		{0, []api.Put{put(-10, 100), put(10, -90)}, api.OK},
		// It need not be the worst choice, nor the first limit.
		{0, []api.Put{put(-10, 100), put(10, -94)}, api.OK},
		{0, []api.Put{put(-10, 100), put(10, -95)}, api.ErrProof},
		{1, []api.Put{put(-10, 100), put(10, -99)}, api.OK},
		{1, []api.Put{put(-10, 100), put(10, -100)}, api.ErrProof},
		{2, []api.Put{put(-10, 100), put(10, -90)}, api.ErrProof},
		// Not a limit.
		{3, []api.Put{put(-10, 100), put(10, -90)}, api.ErrProof},
		{-1, []api.Put{put(-10, 100), put(10, -90)}, api.ErrProof},
		{math.MaxInt, []api.Put{put(-10, 100), put(10, -90)}, api.ErrProof},
		{math.MinInt, []api.Put{put(-10, 100), put(10, -90)}, api.ErrProof},
		// Not a choice.
		{0, nil, api.ErrProof},
		{0, []api.Put{put(-10, 100)}, api.ErrProof},
		{0, []api.Put{put(-10, 100), put(10, -90), put(0, 0)}, api.ErrProof},
		{0, []api.Put{put(10, -90), put(-10, 100)}, api.ErrProof},
		{0, []api.Put{put(-10, 101), put(10, -90)}, api.ErrProof},
		{0, []api.Put{put(-10, 99), put(10, -90)}, api.ErrProof},
		{0, []api.Put{put(-9, 100), put(10, -90)}, api.ErrProof},
		{0, []api.Put{put(-11, 100), put(10, -90)}, api.ErrProof},
		{0, []api.Put{put(-10, 100), put(10, -89)}, api.ErrProof},
		{0, []api.Put{put(-10, 100), put(10, math.MaxInt)}, api.ErrProof},
		{0, []api.Put{put(math.MaxInt, math.MaxInt), put(10, -90)}, api.ErrProof},
		{1, []api.Put{put(-10, 100), put(9, -90)}, api.ErrProof},
		{1, []api.Put{put(-10, 100), put(11, -90)}, api.ErrProof},
	} {
		if e := trim.CheckBreach(plain(), limits, api.Breach{Limit: x.limit, Puts: x.puts}); e != x.want {
			t.Error(i, e, "want", x.want)
		}
	}
	for _, n := range []int{-100, -99, 0, 50} {
		// A place within its span.
		e := trim.CheckBreach(walker(), []api.Limit{limit(0, -1, 791)}, api.Breach{Puts: []api.Put{put(n, 8)}})
		if e == api.OK != (n < -98) || e != api.OK && e != api.ErrProof {
			t.Error(n, e)
		}
	}
	if e := trim.CheckBreach(nil, []api.Limit{{C: -1}}, api.Breach{}); e != api.OK {
		t.Error(e)
	}
	if e := trim.CheckBreach(nil, nil, api.Breach{}); e != api.ErrProof {
		t.Error(e)
	}
}

// within returns a span from least to most, of at most so many numbers.
func within(r *rand.Rand, least, most, wide int) api.Span {
	lo := least + r.Intn(most-least+1)
	return span(lo, min(lo+r.Intn(wide), most))
}

// someLoads returns up to n loads near the middle, with few choices each.
func someLoads(r *rand.Rand, n, wide int) []api.Load {
	l := make([]api.Load, r.Intn(n+1))
	for i := range l {
		l[i] = load(within(r, -5, 5, wide), within(r, -6, 9, wide))
	}
	return l
}

// someLimits returns up to n limits which such loads keep, or not.
func someLimits(r *rand.Rand, n int) []api.Limit {
	l := make([]api.Limit, r.Intn(n+1))
	for i := range l {
		l[i] = limit(r.Intn(9)-4, r.Intn(5)-2, r.Intn(100)-20)
	}
	return l
}

// choices yields all choices for loads.
func choices(l []api.Load) iter.Seq[[]api.Put] {
	return func(yield func(c []api.Put) bool) {
		c := make([]api.Put, len(l))
		var from func(i int) bool
		from = func(i int) bool {
			if i == len(l) {
				return yield(slices.Clone(c))
			}
			for at := l[i].At.Lo; at <= l[i].At.Hi; at++ {
				for weight := l[i].Weight.Lo; weight <= l[i].Weight.Hi; weight++ {
					c[i] = put(at, weight)
					if !from(i + 1) {
						return false
					}
				}
			}
			return true
		}
		from(0)
	}
}

// ends returns the least and the greatest of what is asked of all choices.
func ends(l []api.Load, ask func(c []api.Put) int) api.Span {
	s := span(math.MaxInt, math.MinInt)
	for c := range choices(l) {
		n := ask(c)
		s = span(min(s.Lo, n), max(s.Hi, n))
	}
	return s
}

func heaviness(c []api.Put) int {
	n := 0
	for _, p := range c {
		n += p.Weight
	}
	return n
}

func moment(c []api.Put) int {
	n := 0
	for _, p := range c {
		n += p.Weight * p.At
	}
	return n
}

func value(x api.Limit, c []api.Put) int { return x.A*heaviness(c) + x.B*moment(c) }

// keeps reports whether all choices for loads keep a limit.
func keeps(l []api.Load, x api.Limit) bool {
	return ends(l, func(c []api.Put) int { return value(x, c) }).Hi <= x.C
}

// keepsAll reports whether loads keep all limits.
func keepsAll(l []api.Load, limits []api.Limit) bool {
	return !slices.ContainsFunc(limits, func(x api.Limit) bool { return !keeps(l, x) })
}

// corners returns the four corners of a load, in the chapter's order.
func corners(x api.Load) []api.Put {
	at, weight := x.At, x.Weight
	return []api.Put{put(at.Lo, weight.Lo), put(at.Hi, weight.Lo), put(at.Lo, weight.Hi), put(at.Hi, weight.Hi)}
}

// worst returns the worst choice for a limit, as the chapter tells it.
func worst(l []api.Load, x api.Limit) []api.Put {
	var c []api.Put
	for _, y := range l {
		four := corners(y)
		most := four[0]
		for _, p := range four[1:] {
			if p.Weight*(x.A+x.B*p.At) > most.Weight*(x.A+x.B*most.At) {
				most = p
			}
		}
		c = append(c, most)
	}
	return c
}

// P4.6: the ends are those of choices, and no choice goes beyond.
func TestP4_6Balance(t *testing.T) {
	r := rand.New(rand.NewSource(1))
	for range 1500 {
		l := someLoads(r, 3, 4)
		heavy, moments, e := trim.Balance(l)
		if heavy != ends(l, heaviness) || moments != ends(l, moment) || e != api.OK {
			t.Fatal(l, heavy, moments, e)
		}
	}
}

func TestP4_2WorstAll(t *testing.T) {
	r := rand.New(rand.NewSource(2))
	for range 1500 {
		l, x := someLoads(r, 3, 4), limit(r.Intn(9)-4, r.Intn(5)-2, 0)
		n, c, e := trim.Worst(l, x)
		if n != ends(l, func(c []api.Put) int { return value(x, c) }).Hi || !slices.Equal(c, worst(l, x)) || e != api.OK {
			t.Fatal(l, x, n, c, e)
		}
	}
}

// N4, P4.6: if no breach is found no choice at all breaks a limit; and if one is, its choice does.
func TestN4Accepted(t *testing.T) {
	r := rand.New(rand.NewSource(3))
	found := map[int]int{}
	for range 1500 {
		l, limits := someLoads(r, 3, 4), someLimits(r, 4)
		first := slices.IndexFunc(limits, func(x api.Limit) bool { return !keeps(l, x) })
		found[first]++
		b, e := trim.Breach(l, limits)
		if first < 0 {
			if e != api.ErrNone || b.Limit != 0 || len(b.Puts) > 0 {
				t.Fatal(l, limits, b, e)
			}
			continue
		}
		if b.Limit != first || !slices.Equal(b.Puts, worst(l, limits[first])) || e != api.OK {
			t.Fatal(l, limits, b, e)
		}
		if value(limits[first], b.Puts) <= limits[first].C || trim.CheckBreach(l, limits, b) != api.OK {
			t.Fatal(l, limits, b)
		}
	}
	if found[-1] < 100 || found[0] < 100 || found[2] < 20 {
		t.Error("hardly anything is found:", found)
	}
}

// P4.2: all choices that do not keep a limit are proofs, and no others.
func TestP4_2CheckBreachAll(t *testing.T) {
	r := rand.New(rand.NewSource(4))
	for range 300 {
		l, limits := someLoads(r, 2, 3), someLimits(r, 3)
		wider := slices.Clone(l)
		for i, x := range wider {
			wider[i] = load(span(x.At.Lo-1, x.At.Hi+1), span(x.Weight.Lo-1, x.Weight.Hi+1))
		}
		could := slices.Collect(choices(l))
		for c := range choices(wider) {
			for i, x := range limits {
				want := api.ErrProof
				if value(x, c) > x.C && slices.ContainsFunc(could, func(d []api.Put) bool { return slices.Equal(c, d) }) {
					want = api.OK
				}
				if e := trim.CheckBreach(l, limits, api.Breach{Limit: i, Puts: c}); e != want {
					t.Fatal(l, x, c, e)
				}
			}
		}
	}
}

// P4.2: nothing overflows. The ends are compared with those in big numbers.
func TestP4_2Largest(t *testing.T) {
	at, weight := span(-api.MaxStation, api.MaxStation), span(-api.MaxWeight, api.MaxWeight)
	kinds := []api.Load{
		load(at, weight), load(only(at.Lo), only(weight.Lo)), load(only(at.Hi), only(weight.Hi)),
		load(only(at.Lo), only(weight.Hi)), load(span(19998, 20000), weight), load(at, only(weight.Lo)),
	}
	sides := []int{api.MaxSide, -api.MaxSide, 0}
	for _, kind := range kinds {
		l := slices.Repeat([]api.Load{kind}, api.MaxLoads)
		for _, a := range []int{-api.MaxFactor, 0, api.MaxFactor} {
			for _, b := range []int{-api.MaxFactor, 0, api.MaxFactor} {
				most := bigMost(l, limit(a, b, 0))
				n, _, e := trim.Worst(l, limit(a, b, 0))
				if e != api.OK || big.NewInt(int64(n)).Cmp(most) != 0 {
					t.Error(kind, a, b, n, e, "want", most)
				}
				for _, c := range append(sides, n, n-1) {
					_, e := trim.Breach(l, []api.Limit{limit(a, b, c)})
					if broken := most.Cmp(big.NewInt(int64(c))) > 0; broken != (e == api.OK) {
						t.Error(kind, a, b, c, e)
					}
				}
			}
		}
		heavy, moments, e := trim.Balance(l)
		for i, n := range []int{-heavy.Lo, heavy.Hi, -moments.Lo, moments.Hi} {
			x := []api.Limit{limit(-1, 0, 0), limit(1, 0, 0), limit(0, -1, 0), limit(0, 1, 0)}[i]
			if most := bigMost(l, x); e != api.OK || big.NewInt(int64(n)).Cmp(most) != 0 {
				t.Error(kind, i, n, e, "want", most)
			}
		}
	}
}

// bigMost returns the greatest value of a limit.
func bigMost(l []api.Load, x api.Limit) *big.Int {
	sum := new(big.Int)
	for _, y := range l {
		var most *big.Int
		for _, p := range corners(y) {
			n := big.NewInt(int64(x.B))
			n.Mul(n, big.NewInt(int64(p.At))).Add(n, big.NewInt(int64(x.A))).Mul(n, big.NewInt(int64(p.Weight)))
			if most == nil || n.Cmp(most) > 0 {
				most = n
			}
		}
		sum.Add(sum, most)
	}
	return sum
}

// narrower returns loads that are known better.
func narrower(r *rand.Rand, l []api.Load) []api.Load {
	l = slices.Clone(l)
	for i, x := range l {
		l[i] = load(part(r, x.At), part(r, x.Weight))
	}
	return l
}

// part returns a part of a span.
func part(r *rand.Rand, s api.Span) api.Span {
	lo := s.Lo + r.Intn(s.Hi-s.Lo+1)
	return span(lo, lo+r.Intn(s.Hi-lo+1))
}

// P4.7: loads that are known better break no more limits, and strain no more frames.
func TestP4_7Known(t *testing.T) {
	r := rand.New(rand.NewSource(5))
	better := 0
	for range 1000 {
		l, limits, frames := someLoads(r, 6, 8), someLimits(r, 1), someFrames(r, 1)
		for range 5 {
			inner := narrower(r, l)
			_, before := trim.Breach(l, limits)
			_, e := trim.Breach(inner, limits)
			if before == api.ErrNone && e != api.ErrNone {
				t.Fatal(l, inner, limits, e)
			}
			outer, _ := trim.Strained(l, frames)
			strained, e := trim.Strained(inner, frames)
			if len(strained) > len(outer) || e != api.OK {
				t.Fatal(l, inner, frames, strained, e)
			}
			better += len(outer) - len(strained)
		}
	}
	if better < 100 {
		t.Error("hardly anything is strained less:", better)
	}
}

// told is what is told of loads, but for choices.
type told struct {
	heavy, moment, shear, bend api.Span
	value, limit, strained     int
	breach                     api.Errno
}

func tell(l []api.Load, x api.Limit, limits []api.Limit, f api.Frame) told {
	var a told
	a.heavy, a.moment, _ = trim.Balance(l)
	a.shear, _ = trim.Shear(l, f.At)
	a.bend, _ = trim.Bend(l, f.At)
	a.value, _, _ = trim.Worst(l, x)
	b, e := trim.Breach(l, limits)
	a.limit, a.breach = b.Limit, e
	strained, _ := trim.Strained(l, []api.Frame{f})
	a.strained = len(strained)
	return a
}

// P4.7: the order of loads does not matter but for the order of a choice, and a load whose weight is 0 changes nothing.
func TestP4_7Order(t *testing.T) {
	r := rand.New(rand.NewSource(6))
	for range 1500 {
		l, limits, f := someLoads(r, 6, 8), someLimits(r, 4), frame(r.Intn(13)-6, r.Intn(40), r.Intn(100))
		x := limit(r.Intn(9)-4, r.Intn(9)-4, 0)
		want := tell(l, x, limits, f)
		mixed, other := slices.Clone(l), slices.Clone(l)
		order := r.Perm(len(l))
		for i, j := range order {
			mixed[i] = l[j]
		}
		if got := tell(mixed, x, limits, f); got != want {
			t.Fatal(l, mixed, got, want)
		}
		_, c, _ := trim.Worst(l, x)
		_, d, _ := trim.Worst(mixed, x)
		for i, j := range order {
			if d[i] != c[j] {
				t.Fatal(l, c, d)
			}
		}
		other = slices.Insert(other, r.Intn(len(l)+1), load(within(r, -9, 9, 9), only(0)))
		if got := tell(other, x, limits, f); got != want {
			t.Fatal(l, other, got, want)
		}
	}
}
