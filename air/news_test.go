package air_test

import (
	"math"
	"math/rand"
	"slices"
	"testing"

	"ballonet/air"
	"ballonet/api"
)

const (
	press = api.NewsPress
	temp  = api.NewsTemp
	east  = api.NewsEast
	north = api.NewsNorth
)

func news(post, kind, seen, came, lo, hi int) api.News {
	return api.News{Post: post, Kind: kind, Seen: seen, Came: came, Val: span(lo, hi)}
}

// two are the reports of the chapter's examples, with their rates.
func two() []api.News {
	return []api.News{news(0, temp, 0, 10, 2800, 2810), news(0, temp, 30, 90, 2830, 2850)}
}

var slow = api.Rates{Press: 2, Temp: 1, Wind: 3}

func badNews() [][]api.News {
	var bad [][]api.News
	for i := range 3 {
		change := func(f func(n *api.News)) {
			l := slices.Repeat(two(), 2)
			f(&l[i])
			bad = append(bad, l)
		}
		for _, k := range []int{-1, 16, math.MinInt, math.MaxInt} {
			change(func(n *api.News) { n.Post = k })
		}
		for _, k := range []int{-1, 0, 5, math.MinInt, math.MaxInt} {
			change(func(n *api.News) { n.Kind = k })
		}
		for _, x := range outside(0, api.MaxTime) {
			change(func(n *api.News) { n.Seen, n.Came = x.Lo, x.Hi })
		}
		for _, x := range outside(-api.MaxPress, api.MaxPress) {
			change(func(n *api.News) { n.Val = x })
		}
	}
	return bad
}

func TestP2_5CheckNews(t *testing.T) {
	good := []api.News{
		news(0, press, 0, 0, -12000, 12000), news(15, north, api.MaxTime, api.MaxTime, 12000, 12000),
		news(7, east, 0, api.MaxTime, -12000, -12000), news(3, temp, 5, 5, 0, 0),
	}
	for i, l := range [][]api.News{nil, {}, good, two(), slices.Repeat(good, 25)} {
		if e := air.CheckNews(l); e != api.OK {
			t.Error(i, e)
		}
	}
	for i, l := range badNews() {
		if e := air.CheckNews(l); e != api.ErrNews {
			t.Error(i, l, e)
		}
	}
	for i, l := range [][]api.News{append(slices.Repeat(good, 25), good[0]), make([]api.News, 101), slices.Repeat(badNews()[0], 30)} {
		if e := air.CheckNews(l); e != api.ErrMany {
			t.Error(i, e)
		}
	}
}

// badRates are rates that are not valid.
func badRates() []api.Rates {
	var bad []api.Rates
	for _, n := range []int{-1, api.MaxRate + 1, math.MinInt, math.MaxInt} {
		bad = append(bad, api.Rates{Press: n}, api.Rates{Temp: n}, api.Rates{Wind: n})
	}
	return bad
}

var badTimes = []int{-1, api.MaxTime + 1, math.MinInt, math.MaxInt}

// R1 and R2: the errors of Known and Conflict, in order, with nothing beside them.
func TestP2_5Errors(t *testing.T) {
	check := func(r api.Rates, l []api.News, post, kind, at, now int, want api.Errno) {
		t.Helper()
		if s, e := air.Known(r, l, post, kind, at, now); e != want || s != (api.Span{}) {
			t.Error(r, l, post, kind, at, now, s, e)
		}
		if 0 <= at && at <= api.MaxTime {
			if i, k, e := air.Conflict(r, l, post, kind, now); e != want || i != 0 || k != 0 {
				t.Error(r, l, post, kind, now, i, k, e)
			}
		}
	}
	many := make([]api.News, 101)
	for _, l := range badNews() {
		check(slow, l, 0, temp, 0, 0, api.ErrNews)
		check(api.Rates{Press: -1}, l, -1, 0, -1, -1, api.ErrNews)
	}
	check(api.Rates{Press: -1}, many, -1, 0, -1, -1, api.ErrMany)
	// ErrArg comes before what is known of the reports, and of none as well as of some that contradict each other.
	for _, l := range [][]api.News{two(), nil, {news(0, temp, 0, 0, 0, 0), news(0, temp, 0, 0, 9, 9)}} {
		for _, r := range badRates() {
			check(r, l, 0, temp, 30, 90, api.ErrArg)
		}
		for _, post := range []int{-1, 16, math.MinInt, math.MaxInt} {
			check(slow, l, post, temp, 30, 90, api.ErrArg)
		}
		for _, kind := range []int{-1, 0, 5, math.MinInt, math.MaxInt} {
			check(slow, l, 0, kind, 30, 90, api.ErrArg)
		}
		for _, time := range badTimes {
			check(slow, l, 0, temp, 30, time, api.ErrArg)
			check(slow, l, 0, temp, time, 30, api.ErrArg)
		}
	}
	for _, now := range []int{0, 9} {
		check(slow, two(), 0, temp, 0, now, api.ErrNone)
	}
	for _, post := range []int{1, 15} {
		check(slow, two(), post, temp, 0, 90, api.ErrNone)
	}
	for _, kind := range []int{press, east, north} {
		check(slow, two(), 0, kind, 0, 90, api.ErrNone)
	}
	check(slow, nil, 0, temp, 0, 0, api.ErrNone)
}

func TestP2_5Known(t *testing.T) {
	fast := api.Rates{Press: 100, Temp: 100, Wind: 100}
	kinds := []api.News{news(4, press, 100, 100, 10, 20), news(4, temp, 100, 100, 30, 40), news(4, east, 100, 100, -60, -50), news(4, north, 100, 100, 70, 80)}
	apart := func(minutes int) []api.News {
		return []api.News{news(0, temp, 10, 10, 2820, 2830), news(0, temp, 10+minutes, 99, 2790, 2800)}
	}
	for i, x := range []struct {
		r                   api.Rates
		l                   []api.News
		post, kind, at, now int
		want                api.Span
		e                   api.Errno
	}{
		{slow, two(), 0, temp, 30, 30, span(2770, 2840), api.OK},
		{slow, two(), 0, temp, 30, 90, span(2830, 2840), api.OK},
		{slow, two(), 0, temp, 100, 100, span(2760, 2910), api.OK},
		{slow, two(), 0, temp, 30, 10, span(2770, 2840), api.OK},
		{slow, two(), 0, temp, 30, 89, span(2770, 2840), api.OK},
		// Of a time before both.
		{slow, two(), 0, temp, 0, 90, span(2800, 2810), api.OK},
		{slow, two(), 0, temp, 10, 90, span(2810, 2820), api.OK},
		{slow, kinds, 4, press, 103, 100, span(4, 26), api.OK},
		{slow, kinds, 4, temp, 103, 100, span(27, 43), api.OK},
		{slow, kinds, 4, east, 103, 100, span(-69, -41), api.OK},
		{slow, kinds, 4, north, 97, 100, span(61, 89), api.OK},
		{api.Rates{}, kinds, 4, north, 0, 100, span(70, 80), api.OK},
		{fast, []api.News{news(9, press, 0, 0, -12000, 12000)}, 9, press, api.MaxTime, api.MaxTime, span(-100012000, 100012000), api.OK},
		{fast, []api.News{news(9, press, api.MaxTime, api.MaxTime, -12000, 12000)}, 9, press, 0, api.MaxTime, span(-100012000, 100012000), api.OK},
		// The Lo of the one is 20 above the Hi of the other: 20 minutes apart, they agree.
		{slow, apart(20), 0, temp, 10, 99, only(2820), api.OK},
		{slow, apart(20), 0, temp, 30, 99, only(2800), api.OK},
		{slow, apart(20), 0, temp, 40, 99, span(2790, 2810), api.OK},
		{slow, apart(19), 0, temp, 10, 99, api.Span{}, api.ErrConflict},
		{slow, apart(19), 0, temp, 1000, 99, api.Span{}, api.ErrConflict},
		{slow, apart(19), 0, temp, 1000, 98, span(1830, 3820), api.OK},
	} {
		if s, e := air.Known(x.r, x.l, x.post, x.kind, x.at, x.now); e != x.e || s != x.want {
			t.Error(i, s, e)
		}
	}
}

func TestP2_5Conflict(t *testing.T) {
	still := api.Rates{}
	l := []api.News{
		news(1, east, 5, 50, 0, 10), news(2, east, 5, 5, 90, 99), news(1, north, 5, 5, 90, 99), news(1, east, 5, 70, 20, 30),
		news(1, east, 5, 6, 11, 12), news(1, east, 5, 80, 13, 13), news(1, east, 5, 5, 12, 20), news(1, east, 5, 90, -9, 9),
	}
	for i, x := range []struct {
		r               api.Rates
		l               []api.News
		post, kind, now int
		a, b            int
		e               api.Errno
	}{
		// All that came: the least i, and of several the least k.
		{still, l, 1, east, 90, 0, 3, api.OK},
		{still, l, 1, east, 69, 0, 4, api.OK},
		{still, l, 1, east, 49, 0, 0, api.ErrNone},
		{still, l, 1, north, 99, 0, 0, api.ErrNone},
		{still, l, 2, east, 99, 0, 0, api.ErrNone},
		{still, l[1:], 1, east, 79, 2, 3, api.OK},
		{still, l[1:], 1, east, 90, 2, 3, api.OK},
		{still, l[4:], 1, east, 80, 0, 1, api.OK},
		{still, l[4:], 1, east, 79, 0, 0, api.ErrNone},
		{still, l[6:], 1, east, 90, 0, 1, api.OK},
		{still, []api.News{l[6], l[1], l[7]}, 1, east, 90, 0, 2, api.OK},
		{still, []api.News{l[7], l[1], l[6]}, 1, east, 90, 0, 2, api.OK},
		// By more than the rate: 10 above after 9 and after 10 minutes, either way, for each kind's own rate.
		{api.Rates{Temp: 1}, []api.News{news(0, temp, 0, 0, 0, 5), news(0, temp, 9, 9, 15, 20)}, 0, temp, 9, 0, 1, api.OK},
		{api.Rates{Temp: 1}, []api.News{news(0, temp, 0, 0, 0, 5), news(0, temp, 10, 10, 15, 20)}, 0, temp, 10, 0, 0, api.ErrNone},
		{api.Rates{Temp: 1}, []api.News{news(0, temp, 9, 9, 0, 5), news(0, temp, 0, 0, 15, 20)}, 0, temp, 9, 0, 1, api.OK},
		{api.Rates{Temp: 1}, []api.News{news(0, temp, 10, 10, 0, 5), news(0, temp, 0, 0, 15, 20)}, 0, temp, 10, 0, 0, api.ErrNone},
		{api.Rates{Temp: 1}, []api.News{news(0, temp, 0, 0, 15, 20), news(0, temp, 9, 9, 0, 5)}, 0, temp, 9, 0, 1, api.OK},
		{api.Rates{Press: 1}, []api.News{news(0, press, 0, 0, 15, 20), news(0, press, 10, 10, 0, 5)}, 0, press, 10, 0, 0, api.ErrNone},
		{api.Rates{Temp: 1, Wind: 1}, []api.News{news(0, press, 0, 0, 15, 20), news(0, press, 10, 10, 0, 5)}, 0, press, 10, 0, 1, api.OK},
		{api.Rates{Wind: 1}, []api.News{news(0, north, 0, 0, 15, 20), news(0, north, 10, 10, 0, 5)}, 0, north, 10, 0, 0, api.ErrNone},
		{api.Rates{Press: 1, Temp: 1}, []api.News{news(0, north, 0, 0, 15, 20), news(0, north, 10, 10, 0, 5)}, 0, north, 10, 0, 1, api.OK},
	} {
		if a, b, e := air.Conflict(x.r, x.l, x.post, x.kind, x.now); e != x.e || a != x.a || b != x.b {
			t.Error(i, a, b, e)
		}
	}
}

// someNews returns reports of a few posts, most of them of one post and kind, which often agree.
func someNews(r *rand.Rand) []api.News {
	var l []api.News
	for range r.Intn(9) {
		n := news(r.Intn(2)*r.Intn(2), 1+r.Intn(2)*r.Intn(4), r.Intn(12), 0, r.Intn(9)-4, 0)
		n.Came = n.Seen + r.Intn(2)*r.Intn(12)
		n.Val.Hi = n.Val.Lo + r.Intn(8)
		l = append(l, n)
	}
	return l
}

func someRates(r *rand.Rand) api.Rates {
	return api.Rates{Press: r.Intn(3), Temp: r.Intn(3), Wind: r.Intn(3)}
}

// atHand returns the indices of the reports at hand.
func atHand(l []api.News, post, kind, now int) []int {
	var is []int
	for i, n := range l {
		if n.Post == post && n.Kind == kind && n.Came <= now {
			is = append(is, i)
		}
	}
	return is
}

func rate(r api.Rates, kind int) int {
	return map[int]int{press: r.Press, temp: r.Temp, east: r.Wind, north: r.Wind}[kind]
}

func apart(a, b int) int { return max(a-b, b-a) }

// says returns what a report says of a time.
func says(rate int, n api.News, at int) api.Span {
	d := rate * apart(n.Seen, at)
	return span(n.Val.Lo-d, n.Val.Hi+d)
}

// Known and Conflict, by their definitions, for all questions of a few posts and times.
func TestP2_5All(t *testing.T) {
	r := rand.New(rand.NewSource(21))
	seen := map[api.Errno]int{}
	for range 3000 {
		l, rates := someNews(r), someRates(r)
		post, kind, now := r.Intn(2), 1+r.Intn(4)*r.Intn(2), r.Intn(25)
		hand := atHand(l, post, kind, now)
		a, b, want := 0, 0, api.ErrNone
		for x := len(hand) - 1; x >= 0; x-- {
			for y := len(hand) - 1; y > x; y-- {
				n, m := l[hand[x]], l[hand[y]]
				if far := rate(rates, kind) * apart(n.Seen, m.Seen); n.Val.Lo-m.Val.Hi > far || m.Val.Lo-n.Val.Hi > far {
					a, b, want = hand[x], hand[y], api.OK
				}
			}
		}
		i, k, e := air.Conflict(rates, l, post, kind, now)
		if e != want || i != a || k != b {
			t.Fatal(rates, l, post, kind, now, i, k, e)
		}
		for at := range 25 {
			s, e := air.Known(rates, l, post, kind, at, now)
			seen[e]++
			switch {
			case len(hand) == 0:
				if e != api.ErrNone || s != (api.Span{}) {
					t.Fatal(rates, l, post, kind, at, now, s, e)
				}
			case want == api.OK:
				if e != api.ErrConflict || s != (api.Span{}) {
					t.Fatal(rates, l, post, kind, at, now, s, e)
				}
			default:
				told := span(math.MinInt, math.MaxInt)
				for _, i := range hand {
					x := says(rate(rates, kind), l[i], at)
					told = span(max(told.Lo, x.Lo), min(told.Hi, x.Hi))
				}
				if e != api.OK || s != told || s.Lo > s.Hi {
					t.Fatal(rates, l, post, kind, at, now, s, told, e)
				}
			}
		}
	}
	if len(seen) != 3 || min(seen[api.OK], seen[api.ErrNone], seen[api.ErrConflict]) < 2000 {
		t.Error("too few kinds:", seen)
	}
}

// P2.10 and N2: each value that is known to be possible contradicts no report, and each other value contradicts one; a contradiction is shown.
func TestP2_10Values(t *testing.T) {
	r := rand.New(rand.NewSource(22))
	for range 3000 {
		l, rates := someNews(r), someRates(r)
		at := r.Intn(40)
		now := at + r.Intn(5)
		known, e := air.Known(rates, l, 0, press, at, now)
		if i, k, f := air.Conflict(rates, l, 0, press, now); (e == api.ErrConflict) != (f == api.OK) || f == api.OK && i >= k {
			t.Fatal(rates, l, at, now, e, i, k, f)
		}
		if e != api.OK {
			continue
		}
		for v := known.Lo - 3; v <= known.Hi+3; v++ {
			_, k, e := air.Conflict(rates, append(slices.Clone(l), news(0, press, at, now, v, v)), 0, press, now)
			in := known.Lo <= v && v <= known.Hi
			if in != (e == api.ErrNone) || !in && k != len(l) {
				t.Fatal(rates, l, at, now, known, v, k, e)
			}
		}
	}
}

// P2.10: what comes later makes what is known no wider; what has not come changes nothing, nor do other posts and kinds.
func TestP2_10Later(t *testing.T) {
	r := rand.New(rand.NewSource(23))
	for range 5000 {
		l, rates := someNews(r), someRates(r)
		at, now := r.Intn(25), r.Intn(25)
		known, e := air.Known(rates, l, 0, press, at, now)
		i, k, f := air.Conflict(rates, l, 0, press, now)
		if later, e2 := air.Known(rates, l, 0, press, at, now+r.Intn(9)); e == api.OK && e2 != api.ErrConflict && (e2 != api.OK || !holds(known, later)) {
			t.Fatal(rates, l, at, now, known, later, e2)
		}
		more := slices.Clone(l)
		for _, n := range []api.News{news(0, press, r.Intn(now+2), now+1+r.Intn(3), 500, 600), news(1, press, 0, 0, 700, 800), news(0, temp, 0, 0, 900, 999)} {
			n.Seen = min(n.Seen, n.Came)
			more = append(more, n)
		}
		same, e2 := air.Known(rates, more, 0, press, at, now)
		i2, k2, f2 := air.Conflict(rates, more, 0, press, now)
		if same != known || e2 != e || i2 != i || k2 != k || f2 != f {
			t.Fatal(rates, l, at, now, known, same, e, e2)
		}
	}
}

// wellTold returns reports of all kinds of n posts, at the time 100, and the posts.
func wellTold(n int) ([]api.Post, []api.News) {
	var p []api.Post
	var l []api.News
	for i := range n {
		p = append(p, api.Post{Height: -500 + 300*i, Gust: 7 * i})
		l = append(l, news(i, press, 100, 100, 9000-i, 9100), news(i, temp, 100, 100, 2700, 2800+i), news(i, east, 100, 100, -50, i), news(i, north, 100, 100, -i, 70))
	}
	return p, l
}

func TestP2_6Sound(t *testing.T) {
	p, l := wellTold(2)
	for i, x := range []struct {
		at     int
		levels []api.Level
		gales  []api.Gale
	}{
		{100,
			[]api.Level{level(-500, span(9000, 9100), span(2700, 2800)), level(-200, span(8999, 9100), span(2700, 2801))},
			[]api.Gale{gale(-500, wind(-50, 0, 0, 70), 0), gale(-200, wind(-50, 1, -1, 70), 7)}},
		{90,
			[]api.Level{level(-500, span(8980, 9120), span(2690, 2810)), level(-200, span(8979, 9120), span(2690, 2811))},
			[]api.Gale{gale(-500, wind(-80, 30, -30, 100), 0), gale(-200, wind(-80, 31, -31, 100), 7)}},
		// Later, only as far as the ranges go.
		{1600,
			[]api.Level{level(-500, span(6000, 12000), span(1500, 3500)), level(-200, span(5999, 12000), span(1500, 3500))},
			[]api.Gale{gale(-500, wind(-1000, 1000, -1000, 1000), 0), gale(-200, wind(-1000, 1000, -1000, 1000), 7)}},
		{api.MaxTime,
			[]api.Level{level(-500, span(1000, 12000), span(1500, 3500)), level(-200, span(1000, 12000), span(1500, 3500))},
			[]api.Gale{gale(-500, wind(-1000, 1000, -1000, 1000), 0), gale(-200, wind(-1000, 1000, -1000, 1000), 7)}},
	} {
		levels, gales, e := air.Sound(p, slow, l, x.at, 100)
		if e != api.OK || !slices.Equal(levels, x.levels) || !slices.Equal(gales, x.gales) {
			t.Error(i, levels, gales, e)
		}
	}
	// A post with the Height and the Gust of the limits, and as many as there may be.
	p, l = wellTold(16)
	p[0], p[15] = api.Post{Height: -500, Gust: 500}, api.Post{Height: 5700, Gust: 500}
	levels, gales, e := air.Sound(p, slow, l, 100, 100)
	if e != api.OK || len(levels) != 16 || len(gales) != 16 || air.Check(levels) != api.OK || air.CheckWinds(gales) != api.OK {
		t.Error(levels, gales, e)
	}
}

// noSound checks that Sound returns an error, and nothing beside it.
func noSound(t *testing.T, want api.Errno, p []api.Post, r api.Rates, l []api.News, at, now int) {
	t.Helper()
	if levels, gales, e := air.Sound(p, r, l, at, now); e != want || len(levels) > 0 || len(gales) > 0 {
		t.Error(p, r, at, now, levels, gales, e)
	}
}

func TestP2_6ErrArg(t *testing.T) {
	p, l := wellTold(3)
	for _, bad := range badNews() {
		noSound(t, api.ErrNews, p, slow, bad, 100, 100)
		noSound(t, api.ErrNews, nil, api.Rates{Press: -1}, bad, -1, -1)
	}
	noSound(t, api.ErrMany, nil, api.Rates{Press: -1}, make([]api.News, 101), -1, -1)
	many, _ := wellTold(17)
	// What is wrong with posts, rates and times comes before what is wrong with what is known: here nothing is.
	for _, l := range [][]api.News{l, nil} {
		for _, n := range [][]api.Post{nil, p[:1], many, make([]api.Post, 1000)} {
			noSound(t, api.ErrArg, n, slow, l, 100, 100)
		}
		for _, r := range badRates() {
			noSound(t, api.ErrArg, p, r, l, 100, 100)
		}
		for _, time := range badTimes {
			noSound(t, api.ErrArg, p, slow, l, time, 100)
			noSound(t, api.ErrArg, p, slow, l, 100, time)
		}
		for i := range p {
			for _, g := range []int{-1, 501, math.MinInt, math.MaxInt} {
				bad := slices.Clone(p)
				bad[i].Gust = g
				noSound(t, api.ErrArg, bad, slow, l, 100, 100)
			}
			for _, h := range []int{-501, 9001, math.MinInt, math.MaxInt} {
				bad := slices.Clone(p)
				bad[i].Height = h
				noSound(t, api.ErrArg, bad, slow, l, 100, 100)
			}
		}
	}
	for _, heights := range [][3]int{{0, 0, 1}, {0, 2001, 2002}, {0, 1, 2002}, {5, 4, 6}} {
		bad := slices.Clone(p)
		for i, h := range heights {
			bad[i].Height = h
		}
		noSound(t, api.ErrArg, bad, slow, l, 100, 100)
	}
}

// without returns reports without one of them.
func without(l []api.News, i int) []api.News { return slices.Delete(slices.Clone(l), i, i+1) }

func TestP2_6KnownErrors(t *testing.T) {
	p, l := wellTold(3)
	noSound(t, api.ErrNone, p, slow, nil, 100, 100)
	noSound(t, api.ErrNone, p, slow, l, 100, 99)
	for i := range l {
		noSound(t, api.ErrNone, p, slow, without(l, i), 100, 100)
		n := l[i]
		n.Val = only(n.Val.Hi + 1)
		clash := append(slices.Clone(l), n)
		noSound(t, api.ErrConflict, p, slow, clash, 100, 100)
		// Of a conflict and a gap, the first one is told: post by post, kind by kind.
		for k := range l {
			if k == i {
				continue
			}
			want := api.ErrConflict
			if k < i {
				want = api.ErrNone
			}
			noSound(t, want, p, slow, without(clash, k), 100, 100)
		}
	}
	// Reports of other posts tell nothing.
	if _, _, e := air.Sound(p, slow, append(l, news(9, press, 0, 0, 1, 1), news(9, press, 0, 0, 3, 3)), 100, 100); e != api.OK {
		t.Error(e)
	}
}

func TestP2_6ErrUnfit(t *testing.T) {
	p, l := wellTold(3)
	ranges := []api.Span{span(1000, 12000), span(1500, 3500), span(-1000, 1000), span(-1000, 1000)}
	for i, n := range l {
		s := ranges[n.Kind-1]
		with := func(v api.Span) []api.News {
			m := slices.Clone(l)
			m[i].Val = v
			return m
		}
		outer := []api.Span{only(s.Lo - 1), span(-12000, s.Lo-1)}
		if s.Hi < api.MaxPress {
			outer = append(outer, only(s.Hi+1), span(s.Hi+1, 12000))
		}
		for _, v := range outer {
			noSound(t, api.ErrUnfit, p, slow, with(v), 100, 100)
			// After all errors of Known, also of later posts.
			last := len(l) - 1
			if i < last {
				noSound(t, api.ErrNone, p, slow, without(with(v), last), 100, 100)
			}
			// A minute later the ends may be in the range.
			if v.Lo == s.Hi+1 || v.Hi == s.Lo-1 {
				if _, _, e := air.Sound(p, slow, with(v), 101, 100); e != api.OK {
					t.Error(v, e)
				}
			}
		}
		for _, v := range []api.Span{only(s.Lo), only(s.Hi), span(-12000, s.Lo), span(s.Hi, 12000), span(-12000, 12000)} {
			levels, gales, e := air.Sound(p, slow, with(v), 100, 100)
			if e != api.OK {
				t.Error(v, e)
				continue
			}
			told := []api.Span{levels[n.Post].Press, levels[n.Post].Temp, gales[n.Post].Wind.X, gales[n.Post].Wind.Y}[n.Kind-1]
			if told != span(max(v.Lo, s.Lo), min(v.Hi, s.Hi)) {
				t.Error(v, told)
			}
		}
	}
}
