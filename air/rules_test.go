package air_test

import (
	"math"
	"math/rand"
	"slices"
	"testing"

	"ballonet/air"
	"ballonet/api"
)

// untouched runs f on a list with room behind it, and checks that all of its memory is as it was.
func untouched[T comparable](t *testing.T, name string, l []T, behind T, f func(l []T)) {
	t.Helper()
	m := append(slices.Clone(l), slices.Repeat([]T{behind}, 5)...)[:len(l)]
	before := slices.Clone(m[:cap(m)])
	f(m)
	if !slices.Equal(m[:cap(m)], before) {
		t.Error(name, "changed", before, "to", m[:cap(m)])
	}
}

// R3: arguments are only read.
func TestP1Untouched(t *testing.T) {
	for _, s := range append(goodSoundings(), badSoundings()[:3]...) {
		untouched(t, "sounding", s, level(9, span(1, 0), span(3, 2)), func(s []api.Level) {
			air.Check(s)
			air.At(s, span(0, 3))
			air.Settle(s)
			air.Where(s, span(5000, 9000))
		})
	}
	for _, l := range [][]api.Gale{breeze(), storms(16), nil} {
		untouched(t, "winds", l, gale(-3, wind(1, 0, 3, 2), 7), func(l []api.Gale) {
			air.CheckWinds(l)
			air.WindAt(l, span(-9, 99))
		})
	}
	p, l := wellTold(3)
	for _, l := range [][]api.News{l, two(), nil} {
		untouched(t, "reports", l, news(0, temp, 0, 0, 5, 6), func(l []api.News) {
			air.CheckNews(l)
			air.Known(slow, l, 0, temp, 30, 90)
			air.Conflict(slow, l, 0, temp, 90)
			air.Sound(p, slow, l, 100, 100)
		})
	}
	untouched(t, "posts", p, api.Post{Height: 7, Gust: -1}, func(p []api.Post) { air.Sound(p, slow, l, 100, 100) })
}

// R3: results share no memory with arguments, nor with the results of other calls.
func TestP1NewMemory(t *testing.T) {
	for _, given := range goodSoundings() {
		s := slices.Clone(given)
		first, _, _ := air.Settle(s)
		want := slices.Clone(first)
		for i := range first[:cap(first)] {
			first[:cap(first)][i] = level(7, only(7), only(7))
		}
		if again, _, _ := air.Settle(s); !slices.Equal(s, given) || !slices.Equal(again, want) {
			t.Error(given, s, again)
		}
	}
	p, l := wellTold(3)
	levels, gales, _ := air.Sound(p, slow, l, 100, 100)
	wantLevels, wantGales := slices.Clone(levels), slices.Clone(gales)
	for i := range levels[:cap(levels)] {
		levels[:cap(levels)][i] = api.Level{}
	}
	if !slices.Equal(gales, wantGales) {
		t.Error(gales)
	}
	for i := range gales[:cap(gales)] {
		gales[:cap(gales)][i] = api.Gale{}
	}
	levels, gales, e := air.Sound(p, slow, l, 100, 100)
	if q, m := wellTold(3); e != api.OK || !slices.Equal(levels, wantLevels) || !slices.Equal(gales, wantGales) || !slices.Equal(p, q) || !slices.Equal(l, m) {
		t.Error(levels, gales, e)
	}
}

// R4: lists that are nil and lists that are empty are the same.
func TestP1Empty(t *testing.T) {
	p, _ := wellTold(2)
	for _, l := range [][]api.News{nil, {}, make([]api.News, 0, 9)} {
		if _, e := air.Known(slow, l, 0, temp, 0, 0); air.CheckNews(l) != api.OK || e != api.ErrNone {
			t.Error(e)
		}
		noSound(t, api.ErrNone, p, slow, l, 0, 0)
	}
}

// wild returns any number, most often one at which something overflows or ends.
func wild(r *rand.Rand) int {
	base := []int{0, 0, 1, 500, 9000, 2000, 1000, 12000, 1500, 3500, 1000000, 10000, 16, 4, 1 << 31, 1 << 32, api.MaxBound, 1 << 62, math.MaxInt, math.MinInt}
	n := base[r.Intn(len(base))] + r.Intn(3) - 1
	if r.Intn(2) == 0 {
		return -n
	}
	return n
}

// wildSpan returns any span, most often one from least to most.
func wildSpan(r *rand.Rand, least, most int) api.Span {
	if r.Intn(6) > 0 {
		return someWithin(r, least, most)
	}
	return span(wild(r), wild(r))
}

// wildOne puts something wild into one of some numbers, now and then.
func wildOne(r *rand.Rand, n ...*int) {
	if r.Intn(3) == 0 {
		*n[r.Intn(len(n))] = wild(r)
	}
}

func wildLevels(r *rand.Rand) []api.Level {
	s := someSounding(r)
	l := &s[r.Intn(len(s))]
	wildOne(r, &l.Height, &l.Press.Lo, &l.Press.Hi, &l.Temp.Lo, &l.Temp.Hi)
	return s[:len(s)-r.Intn(5)/4]
}

func wildGales(r *rand.Rand) []api.Gale {
	l := someGales(r)
	g := &l[r.Intn(len(l))]
	wildOne(r, &g.Height, &g.Gust, &g.Wind.X.Lo, &g.Wind.X.Hi, &g.Wind.Y.Lo, &g.Wind.Y.Hi)
	return l[:len(l)-r.Intn(5)/4]
}

func wildPosts(r *rand.Rand) ([]api.Post, []api.News) {
	p, l := wellTold(1 + r.Intn(17))
	l = append(l[:min(len(l), 96)], someNews(r)...)
	x, n := &p[r.Intn(len(p))], &l[r.Intn(len(l))]
	wildOne(r, &x.Height, &x.Gust)
	wildOne(r, &n.Post, &n.Kind, &n.Seen, &n.Came, &n.Val.Lo, &n.Val.Hi)
	return p, l
}

func wildRates(r *rand.Rand) api.Rates {
	x := someRates(r)
	wildOne(r, &x.Press, &x.Temp, &x.Wind)
	return x
}

func wildAmong(r *rand.Rand, least, most int) int {
	n := least + r.Intn(most-least+1)
	if r.Intn(8) == 0 {
		n = wild(r)
	}
	return n
}

// R2, R5, R6 and R7: whatever the arguments are, every call ends without a panic; what it returns is valid; and nothing is beside an error.
func TestP1Wild(t *testing.T) {
	r := rand.New(rand.NewSource(31))
	oks := map[string]int{}
	check := func(name string, e api.Errno, valid, zero bool) {
		t.Helper()
		if e == api.OK {
			oks[name]++
		}
		if e == api.OK && !valid || e != api.OK && !zero {
			t.Error(name, e, valid, zero)
		}
	}
	within := func(s api.Span, least, most int) bool { return least <= s.Lo && s.Lo <= s.Hi && s.Hi <= most }
	for range 4000 {
		s, h := wildLevels(r), wildSpan(r, -500, 2000)
		a, e := air.At(s, h)
		check("At", e, within(a.Press, 1000, 12000) && within(a.Temp, 1500, 3500), a == api.Air{})
		l, bad, e := air.Settle(s)
		check("Settle", e, air.Check(l) == api.OK && bad == 0, len(l) == 0 && (bad == 0 || e == api.ErrUnfit && bad < len(s)))
		w, e := air.Where(s, wildSpan(r, 1000, 12000))
		check("Where", e, within(w, -500, 9000), w == api.Span{})

		b, e := air.WindAt(wildGales(r), wildSpan(r, -600, 9000))
		check("WindAt", e, within(b.X, -1500, 1500) && within(b.Y, -1500, 1500), b == api.Wind{})
		b = api.Wind{X: wildSpan(r, -2000, 2000), Y: wildSpan(r, -2000, 2000)}
		v, e := air.Speed(b)
		check("Speed", e, within(v, 0, 2829), v == api.Span{})
		v, e = air.Along(b, wildAmong(r, -99, 99), wildAmong(r, -10000, 10000))
		check("Along", e, within(v, -2829, 2829), v == api.Span{})

		p, reports := wildPosts(r)
		rates, at, now := wildRates(r), wildAmong(r, 90, 200), wildAmong(r, 95, 110)
		post, kind := wildAmong(r, 0, 3), wildAmong(r, 1, 4)
		v, e = air.Known(rates, reports, post, kind, at, now)
		check("Known", e, within(v, -100012000, 100012000), v == api.Span{})
		i, k, e := air.Conflict(rates, reports, post, kind, now)
		check("Conflict", e, 0 <= i && i < k && k < len(reports), i == 0 && k == 0)
		levels, gales, e := air.Sound(p, rates, reports, at, now)
		check("Sound", e, air.Check(levels) == api.OK && air.CheckWinds(gales) == api.OK && len(levels) == len(p) && len(gales) == len(p), len(levels)+len(gales) == 0)
	}
	for _, name := range []string{"At", "Settle", "Where", "WindAt", "Speed", "Along", "Known", "Conflict", "Sound"} {
		if oks[name] < 100 {
			t.Error("hardly anything is valid:", oks)
		}
	}
}
