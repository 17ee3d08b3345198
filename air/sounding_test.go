package air_test

import (
	"math"
	"math/big"
	"math/rand"
	"slices"
	"testing"

	"ballonet/air"
	"ballonet/api"
)

func span(lo, hi int) api.Span { return api.Span{Lo: lo, Hi: hi} }

func only(n int) api.Span { return span(n, n) }

func level(height int, press, temp api.Span) api.Level {
	return api.Level{Height: height, Press: press, Temp: temp}
}

// slope is the sounding of the chapter's examples.
func slope() []api.Level {
	return []api.Level{level(0, only(10000), only(2800)), level(1000, span(8800, 9000), only(2800))}
}

// stairs returns a sounding of n levels of which hardly anything is known.
func stairs(n int) []api.Level {
	var s []api.Level
	for i := range n {
		s = append(s, level(-500+i*500, span(api.MinPress, api.MaxPress), span(api.MinTemp, api.MaxTemp)))
	}
	return s
}

// outside are spans that are not from least to most, though some of their ends are.
func outside(least, most int) []api.Span {
	return []api.Span{
		span(least-1, most), span(least, most+1), span(most, least), span(least-1, least-1), span(most+1, most+1),
		span(least+1, least), span(math.MinInt, most), span(least, math.MaxInt), span(math.MinInt, math.MaxInt),
		span(math.MaxInt, math.MinInt), only(math.MinInt), only(math.MaxInt),
	}
}

// badSpans are spans that are not valid.
func badSpans() []api.Span { return outside(-api.MaxBound, api.MaxBound) }

func badSoundings() [][]api.Level {
	bad := [][]api.Level{nil, {}, slope()[:1], stairs(api.MaxLevels + 1), make([]api.Level, 1000)}
	change := func(i int, f func(l *api.Level)) {
		s := stairs(3)
		f(&s[i])
		bad = append(bad, s)
	}
	for i := range 3 {
		for _, h := range []int{-501, 9001, math.MinInt, math.MaxInt, math.MinInt + 1000} {
			change(i, func(l *api.Level) { l.Height = h })
		}
		for _, x := range outside(api.MinPress, api.MaxPress) {
			change(i, func(l *api.Level) { l.Press = x })
		}
		for _, x := range outside(api.MinTemp, api.MaxTemp) {
			change(i, func(l *api.Level) { l.Temp = x })
		}
	}
	for _, heights := range [][]int{{0, 0, 5}, {0, 5, 5}, {5, 0, 10}, {0, 10, 5}, {0, 2001, 2002}, {0, 1, 2002}, {2, 1, 0}, {-500, -501, 0}, {8999, 9000, 9001}} {
		s := stairs(3)
		for i, h := range heights {
			s[i].Height = h
		}
		bad = append(bad, s)
	}
	return bad
}

func goodSoundings() [][]api.Level {
	ends := func(n int) []api.Level {
		s := stairs(n)
		for i := range s {
			s[i].Press, s[i].Temp = only(api.MinPress), only(api.MinTemp)
			if i%2 == 1 {
				s[i].Press, s[i].Temp = only(api.MaxPress), only(api.MaxTemp)
			}
		}
		return s
	}
	far := stairs(6)
	for i, h := range []int{-500, 1500, 3500, 5500, 7500, 9000} {
		far[i].Height = h
	}
	near := stairs(3)
	near[0].Height, near[1].Height, near[2].Height = 8998, 8999, 9000
	return [][]api.Level{slope(), stairs(2), stairs(api.MaxLevels), ends(2), ends(api.MaxLevels), far, near}
}

func TestP2_1Check(t *testing.T) {
	for i, s := range goodSoundings() {
		if e := air.Check(s); e != api.OK {
			t.Error(i, e)
		}
	}
	for i, s := range badSoundings() {
		if e := air.Check(s); e != api.ErrAir {
			t.Error(i, s, e)
		}
	}
}

// R1 and R2: the errors of the functions with a sounding, in order, with nothing beside them.
func TestP2_1SoundingErrors(t *testing.T) {
	unfit := slope()
	unfit[0].Press = span(8900, 9000)
	for i, x := range []struct {
		s    []api.Level
		x    api.Span
		want api.Errno
	}{
		{stairs(1), span(1, 0), api.ErrAir},
		{stairs(1), span(-501, 0), api.ErrAir},
		{slope(), span(1, 0), api.ErrSpan},
		{slope(), span(5, -5), api.ErrSpan},
		{unfit, span(5, -5), api.ErrSpan},
		{unfit, span(0, api.MaxBound+1), api.ErrSpan},
		{slope(), span(-1, 0), api.ErrArg},
		{slope(), span(1000, 1001), api.ErrArg},
		{slope(), span(-5, 2000), api.ErrArg},
		{slope(), only(-1), api.ErrArg},
		{slope(), only(1001), api.ErrArg},
		{slope(), span(-api.MaxBound, api.MaxBound), api.ErrArg},
		{unfit, span(-1, 0), api.ErrArg},
		{unfit, span(0, 0), api.ErrUnfit},
		{unfit, span(0, 1000), api.ErrUnfit},
	} {
		if a, e := air.At(x.s, x.x); e != x.want || a != (api.Air{}) {
			t.Error(i, a, e)
		}
	}
	for i, s := range badSoundings() {
		for _, x := range []api.Span{only(0), span(1, 0), span(0, math.MaxInt)} {
			if a, e := air.At(s, x); e != api.ErrAir || a != (api.Air{}) {
				t.Error(i, a, e)
			}
			if h, e := air.Where(s, x); e != api.ErrAir || h != (api.Span{}) {
				t.Error(i, h, e)
			}
		}
		if l, bad, e := air.Settle(s); e != api.ErrAir || len(l) > 0 || bad != 0 {
			t.Error(i, l, bad, e)
		}
	}
	for _, s := range [][]api.Level{slope(), unfit} {
		for _, x := range badSpans() {
			if a, e := air.At(s, x); e != api.ErrSpan || a != (api.Air{}) {
				t.Error(x, a, e)
			}
			if h, e := air.Where(s, x); e != api.ErrSpan || h != (api.Span{}) {
				t.Error(x, h, e)
			}
		}
	}
	// Where: Settle's error before ErrNone.
	for _, x := range []api.Span{only(9000), only(0), span(-api.MaxBound, api.MaxBound)} {
		if h, e := air.Where(unfit, x); e != api.ErrUnfit || h != (api.Span{}) {
			t.Error(x, h, e)
		}
	}
}

// down and up round a fraction.
func down(r *big.Rat) int {
	return int(new(big.Int).Div(r.Num(), r.Denom()).Int64()) // rounded down for a denominator above 0
}

func up(r *big.Rat) int { return -down(new(big.Rat).Neg(r)) }

func whole(n int) *big.Rat { return big.NewRat(int64(n), 1) }

func times(a, b *big.Rat) *big.Rat { return new(big.Rat).Mul(a, b) }

func over(a, b *big.Rat) *big.Rat { return new(big.Rat).Quo(a, b) }

// more and less are 1 and the share of a climb together, and 1 less the share.
func more(metres, temp int) *big.Rat {
	return new(big.Rat).Add(whole(1), big.NewRat(int64(341632*metres), int64(1000000*temp)))
}

func less(metres, temp int) *big.Rat {
	return new(big.Rat).Sub(whole(2), more(metres, temp))
}

// lineDown returns the value at x of the line from (a, u) to (b, v), rounded down.
func lineDown(a, u, b, v, x int) int {
	// Exact: a quotient of numbers this small is not so near to a whole one that a float does not tell them apart.
	return int(math.Floor(float64(u*(b-x)+v*(x-a)) / float64(b-a)))
}

func lineUp(a, u, b, v, x int) int { return -lineDown(a, -u, b, -v, x) }

// tempAt returns the temperature between two whole heights of a sounding's range.
func tempAt(s []api.Level, h api.Span) api.Span {
	t := span(math.MaxInt, math.MinInt)
	for i, b := range s[1:] {
		a := s[i]
		for _, x := range []int{max(h.Lo, a.Height), min(h.Hi, b.Height)} {
			if x < a.Height || x > b.Height || x < h.Lo || x > h.Hi {
				continue
			}
			t.Lo = min(t.Lo, lineDown(a.Height, a.Temp.Lo, b.Height, b.Temp.Lo, x))
			t.Hi = max(t.Hi, lineUp(a.Height, a.Temp.Hi, b.Height, b.Temp.Hi, x))
		}
	}
	return t
}

// settled returns the sounding that is settled, all levels at once and again and again, and the first level that is unfit, or -1.
func settled(s []api.Level) ([]api.Level, int) {
	for {
		next := slices.Clone(s)
		for i := range s {
			p := &next[i].Press
			if i+1 < len(s) {
				d, t := s[i+1].Height-s[i].Height, tempAt(s, span(s[i].Height, s[i+1].Height))
				p.Lo = max(p.Lo, down(times(whole(s[i+1].Press.Lo), more(d, t.Hi))))
				p.Hi = min(p.Hi, up(over(whole(s[i+1].Press.Hi), less(d, t.Lo))))
			}
			if i > 0 {
				d, t := s[i].Height-s[i-1].Height, tempAt(s, span(s[i-1].Height, s[i].Height))
				p.Lo = max(p.Lo, down(times(whole(s[i-1].Press.Lo), less(d, t.Lo))))
				p.Hi = min(p.Hi, up(over(whole(s[i-1].Press.Hi), more(d, t.Hi))))
			}
		}
		if slices.Equal(s, next) {
			break
		}
		s = next
	}
	return s, slices.IndexFunc(s, func(l api.Level) bool { return l.Press.Lo > l.Press.Hi })
}

// pressAt returns the pressure at a height of a settled sounding.
func pressAt(s []api.Level, height int) api.Span {
	i := 0
	for s[i].Height < height {
		i++
	}
	if s[i].Height == height {
		return s[i].Press
	}
	a, b := s[i-1], s[i]
	d, t := height-a.Height, tempAt(s, span(a.Height, b.Height))
	return span(
		max(b.Press.Lo, down(times(whole(a.Press.Lo), less(d, t.Lo)))),
		up(over(whole(a.Press.Hi), more(d, t.Hi))),
	)
}

// someWithin returns a span from least to most, often a narrow one.
func someWithin(r *rand.Rand, least, most int) api.Span {
	a := least + r.Intn(most-least+1)
	b := a
	switch r.Intn(4) {
	case 0:
		b = least + r.Intn(most-least+1)
	case 1:
		b = min(a+r.Intn(30), most)
	case 2:
		b = min(a+r.Intn(1000), most)
	}
	return span(min(a, b), max(a, b))
}

// someHeights returns the heights of n levels, at most rise apart.
func someHeights(r *rand.Rand, n, rise int) []int {
	for {
		h := []int{-500 + r.Intn(3000)}
		for len(h) < n {
			h = append(h, h[len(h)-1]+1+r.Intn(rise))
		}
		if h[n-1] <= 9000 {
			return h
		}
	}
}

// someTemps returns a sounding without pressures, and with temperatures that may be near or far from each other.
func someTemps(r *rand.Rand) []api.Level {
	n := 2 + r.Intn(5)
	if r.Intn(8) == 0 {
		n = 16
	}
	rise := []int{3, 100, 900, 2000}[r.Intn(4)]
	if n > 6 {
		rise = min(rise, 600)
	}
	var s []api.Level
	for _, h := range someHeights(r, n, rise) {
		s = append(s, level(h, span(api.MinPress, api.MaxPress), someWithin(r, api.MinTemp, api.MaxTemp)))
	}
	return s
}

// someAir returns the pressures, at each whole height of a sounding's range, of an air that fits its temperatures: each step is as steep as the temperature lets it be, as flat, or between; it begins with some pressure above.
func someAir(r *rand.Rand, s []api.Level) []float64 {
	first, last := s[0].Height, s[len(s)-1].Height
	p := make([]float64, last-first+1)
	p[len(p)-1] = 1000 + 3000*r.Float64()
	way := r.Intn(4)
	for h := last - 1; h >= first; h-- {
		t := tempAt(s, span(h, h+1))
		flat := 1 + 341632/(1e6*float64(t.Hi))
		steep := 1 / (1 - 341632/(1e6*float64(t.Lo)))
		mix := []float64{0, 1, 0.5, r.Float64()}[way]
		p[h-first] = p[h-first+1] * (flat + mix*(steep-flat))
	}
	return p
}

// toldOf returns a sounding which an air fits: at some levels its pressure is told narrowly, at others widely or not at all. It reports false if the air is denser than a sounding may tell.
func toldOf(r *rand.Rand, s []api.Level, p []float64) ([]api.Level, bool) {
	told := slices.Clone(s)
	for i := range told {
		n := p[told[i].Height-s[0].Height]
		if n > 12000 {
			return nil, false
		}
		wide := []int{0, 0, 5, 300, 12000}[r.Intn(5)]
		told[i].Press = span(max(int(math.Floor(n))-r.Intn(wide+1), api.MinPress), min(int(math.Ceil(n))+r.Intn(wide+1), api.MaxPress))
	}
	return told, true
}

// someSounding returns a sounding of any kind; about half of them are fit.
func someSounding(r *rand.Rand) []api.Level {
	s := someTemps(r)
	if r.Intn(3) > 0 {
		if told, ok := toldOf(r, s, someAir(r, s)); ok {
			i := r.Intn(len(told))
			switch x := &told[i].Press; r.Intn(4) {
			case 0:
				*x = someWithin(r, api.MinPress, api.MaxPress)
			case 1: // hardly wrong
				n := r.Intn(9) - 4
				*x = span(min(max(x.Lo+n, api.MinPress), api.MaxPress), min(max(x.Hi+n, api.MinPress), api.MaxPress))
			}
			return told
		}
	}
	for i := range s {
		s[i].Press = someWithin(r, api.MinPress, api.MaxPress)
	}
	return s
}

func TestP2_1At(t *testing.T) {
	long := []api.Level{level(-500, only(12000), span(2900, 3000)), level(1500, span(1000, 12000), span(2700, 2750)), level(1600, span(9000, 9900), span(2600, 2900))}
	for i, x := range []struct {
		s    []api.Level
		h    api.Span
		want api.Air
	}{
		{slope(), only(0), api.Air{Press: only(10000), Temp: only(2800)}},
		{slope(), only(500), api.Air{Press: span(9389, 9426), Temp: only(2800)}},
		{slope(), only(1000), api.Air{Press: span(8800, 8913), Temp: only(2800)}},
		{slope(), span(0, 1000), api.Air{Press: span(8800, 10000), Temp: only(2800)}},
		{slope(), span(0, 500), api.Air{Press: span(9389, 10000), Temp: only(2800)}},
		{slope(), span(500, 1000), api.Air{Press: span(8800, 9426), Temp: only(2800)}},
		// The Lo is not below that of the level above.
		{slope(), only(999), api.Air{Press: span(8800, 8914), Temp: only(2800)}},
		// 1500 is settled from both sides: at most 12000 / 1.2277.., and at least 9000 * 1.0118..
		{long, only(1500), api.Air{Press: span(9106, 9774), Temp: span(2700, 2750)}},
		{long, only(-500), api.Air{Press: only(12000), Temp: span(2900, 3000)}},
		// A temperature between two levels is rounded outwards; but the share is in the least and the greatest one of both levels.
		{long, only(-499), api.Air{Press: span(11998, 11999), Temp: span(2899, 3000)}},
		{long, span(500, 1550), api.Air{Press: span(9046, 10774), Temp: span(2650, 2875)}},
	} {
		if a, e := air.At(x.s, x.h); e != api.OK || a != x.want {
			t.Error(i, a, e)
		}
	}
}

// The air at all kinds of heights is as the definitions say.
func TestP2_1AtAll(t *testing.T) {
	r := rand.New(rand.NewSource(1))
	fit := 0
	for range 1500 {
		s := someSounding(r)
		l, bad := settled(s)
		first, last := s[0].Height, s[len(s)-1].Height
		for range 8 {
			h := someWithin(r, first, last)
			if r.Intn(3) == 0 {
				h.Lo = s[r.Intn(len(s))].Height
				h.Hi = max(h.Lo, h.Hi)
			}
			a, e := air.At(s, h)
			if bad >= 0 {
				if e != api.ErrUnfit || a != (api.Air{}) {
					t.Fatal(s, h, a, e)
				}
				continue
			}
			fit++
			want := api.Air{Press: span(pressAt(l, h.Hi).Lo, pressAt(l, h.Lo).Hi), Temp: tempAt(s, h)}
			if e != api.OK || a != want {
				t.Fatal(s, h, a, want, e)
			}
		}
	}
	if fit < 5000 {
		t.Error("too few are fit:", fit)
	}
}

func TestP2_2Settle(t *testing.T) {
	withPress := func(press ...api.Span) []api.Level {
		s := stairs(len(press))
		for i, p := range press {
			s[i] = level(i*1000, p, only(2800))
		}
		return s
	}
	any := span(api.MinPress, api.MaxPress)
	for i, x := range []struct {
		press, want []api.Span
		bad         int
		e           api.Errno
	}{
		{[]api.Span{only(10000), span(8800, 9000)}, []api.Span{only(10000), span(8800, 8913)}, 0, api.OK},
		{[]api.Span{span(8900, 9000), span(8800, 9000)}, nil, 0, api.ErrUnfit},
		// 8912 * 1.12201.. is 9999.3.., 8913 * 1.12201.. is 10000.4..
		{[]api.Span{only(9999), only(8912)}, []api.Span{only(9999), only(8912)}, 0, api.OK},
		{[]api.Span{only(9999), only(8913)}, nil, 0, api.ErrUnfit},
		// 10000 * 0.87798.. is 8779.8..
		{[]api.Span{only(10000), only(8780)}, []api.Span{only(10000), only(8780)}, 0, api.OK},
		{[]api.Span{only(10000), only(8779)}, nil, 0, api.ErrUnfit},
		{[]api.Span{only(10000), span(8000, 8780)}, []api.Span{only(10000), span(8779, 8780)}, 0, api.OK},
		// What is known of one level is known of all, upwards, downwards and both ways.
		{[]api.Span{only(10000), any, any, any}, []api.Span{only(10000), span(8779, 8913), span(7707, 7944), span(6766, 7081)}, 0, api.OK},
		{[]api.Span{any, any, any, only(7000)}, []api.Span{span(9887, 10343), span(8812, 9081), span(7854, 7973), only(7000)}, 0, api.OK},
		{[]api.Span{any, only(8800), any}, []api.Span{span(9873, 10023), only(8800), span(7726, 7844)}, 0, api.OK},
		// The first level that is unfit need not be where one was told wrongly.
		{[]api.Span{any, any, only(11000)}, nil, 0, api.ErrUnfit},
		{[]api.Span{only(10000), only(8900), only(7900), only(7900)}, nil, 0, api.ErrUnfit},
		{[]api.Span{any, any, only(8000), only(7131), any}, nil, 2, api.ErrUnfit},
	} {
		given := withPress(x.press...)
		l, bad, e := air.Settle(given)
		if e != x.e || bad != x.bad {
			t.Error(i, l, bad, e)
		}
		if e != api.OK {
			if len(l) > 0 {
				t.Error(i, l)
			}
			continue
		}
		if want := withPress(x.want...); !slices.Equal(l, want) {
			t.Error(i, l, want)
		}
	}
}

// Settling is what the definition says, level by level, also which level is the first unfit one.
func TestP2_2SettleAll(t *testing.T) {
	r := rand.New(rand.NewSource(2))
	fit, later := 0, 0
	for range 3000 {
		s := someSounding(r)
		want, bad := settled(s)
		l, b, e := air.Settle(s)
		if bad >= 0 {
			if e != api.ErrUnfit || b != bad || len(l) > 0 {
				t.Fatal(s, l, b, bad, e)
			}
			if bad > 0 {
				later++
			}
			continue
		}
		fit++
		if e != api.OK || b != 0 || !slices.Equal(l, want) {
			t.Fatal(s, l, want, b, e)
		}
	}
	if fit < 1000 || later < 10 {
		t.Error("too few kinds:", fit, later)
	}
}

func TestP2_2Where(t *testing.T) {
	any := span(-api.MaxBound, api.MaxBound)
	for i, x := range []struct {
		press, want api.Span
		e           api.Errno
	}{
		{only(9400), span(491, 524), api.OK},
		{only(10000), only(0), api.OK},
		{only(10001), api.Span{}, api.ErrNone},
		{span(10000, api.MaxBound), only(0), api.OK},
		{only(8800), span(983, 1000), api.OK},
		{only(8799), api.Span{}, api.ErrNone},
		{only(8913), span(891, 1000), api.OK},
		{only(8914), span(890, 999), api.OK},
		{span(-api.MaxBound, 8800), span(983, 1000), api.OK},
		{span(8800, 10000), span(0, 1000), api.OK},
		{any, span(0, 1000), api.OK},
		{only(0), api.Span{}, api.ErrNone},
		{only(api.MaxBound), api.Span{}, api.ErrNone},
		{span(-api.MaxBound, -1), api.Span{}, api.ErrNone},
	} {
		if h, e := air.Where(slope(), x.press); e != x.e || h != x.want {
			t.Error(i, h, e)
		}
	}
}

// P2.2 and P2.8: at each height between those that Where returns, and at no other one, the pressure may be in the span.
func TestP2_8WhereAll(t *testing.T) {
	r := rand.New(rand.NewSource(3))
	none := 0
	for range 400 {
		s := someSounding(r)
		l, bad := settled(s)
		first, last := s[0].Height, s[len(s)-1].Height
		if bad >= 0 || last-first > 2500 {
			continue
		}
		for range 4 {
			p := someWithin(r, api.MinPress-10, api.MaxPress+10)
			if r.Intn(2) == 0 {
				q := pressAt(l, first+r.Intn(last-first+1))
				p = only(q.Lo + r.Intn(q.Hi-q.Lo+1))
			}
			h, e := air.Where(s, p)
			if e == api.ErrNone {
				none++
				h = span(1, 0)
			} else if e != api.OK || h.Lo > h.Hi || h.Lo < first || h.Hi > last {
				t.Fatal(s, p, h, e)
			}
			for x := first; x <= last; x++ {
				q := pressAt(l, x)
				if may := q.Lo <= p.Hi && p.Lo <= q.Hi; may != (h.Lo <= x && x <= h.Hi) {
					t.Fatal(s, p, h, x, q)
				}
			}
		}
	}
	if none == 0 {
		t.Error("all pressures are somewhere")
	}
}

// P2.7 and N2: an air that fits a sounding is in what is told of it.
func TestP2_7Fits(t *testing.T) {
	const near = 1e-6 // how wrong the numbers of an air may be
	r := rand.New(rand.NewSource(4))
	tried := 0
	for range 1500 {
		temps := someTemps(r)
		p := someAir(r, temps)
		s, ok := toldOf(r, temps, p)
		if !ok {
			continue
		}
		tried++
		l, _, e := air.Settle(s)
		if e != api.OK {
			t.Fatal(s, e)
		}
		holds := func(told api.Span, n float64) bool {
			return float64(told.Lo) <= n+near && n-near <= float64(told.Hi)
		}
		for _, x := range l {
			if !holds(x.Press, p[x.Height-s[0].Height]) {
				t.Fatal(s, x, p[x.Height-s[0].Height])
			}
		}
		for range 12 {
			h := s[0].Height + r.Intn(len(p))
			n := p[h-s[0].Height]
			a, e := air.At(s, only(h))
			if e != api.OK || !holds(a.Press, n) || a.Temp != tempAt(s, only(h)) {
				t.Fatal(s, h, a, n, e)
			}
			w, e := air.Where(s, span(int(math.Floor(n-near)), int(math.Ceil(n+near))))
			if e != api.OK || h < w.Lo || h > w.Hi {
				t.Fatal(s, h, n, w, e)
			}
		}
	}
	if tried < 500 {
		t.Error("too few airs:", tried)
	}
}

// widened returns a sounding that is wider here and there.
func widened(r *rand.Rand, s []api.Level) []api.Level {
	w := slices.Clone(s)
	for i := range w {
		if r.Intn(2) == 0 {
			w[i].Press = span(max(w[i].Press.Lo-r.Intn(200), api.MinPress), min(w[i].Press.Hi+r.Intn(200), api.MaxPress))
		}
		if r.Intn(2) == 0 {
			w[i].Temp = span(max(w[i].Temp.Lo-r.Intn(200), api.MinTemp), min(w[i].Temp.Hi+r.Intn(200), api.MaxTemp))
		}
	}
	return w
}

func holds(a, b api.Span) bool { return a.Lo <= b.Lo && b.Hi <= a.Hi }

// A settled sounding is settled again as it is, and a wider one is not settled to less.
func TestP2_7Settled(t *testing.T) {
	r := rand.New(rand.NewSource(5))
	for range 3000 {
		s := someSounding(r)
		l, _, e := air.Settle(s)
		if e != api.OK {
			continue
		}
		again, bad, e := air.Settle(l)
		if e != api.OK || bad != 0 || !slices.Equal(again, l) || air.Check(l) != api.OK {
			t.Fatal(s, l, again, bad, e)
		}
		wide, bad, e := air.Settle(widened(r, s))
		if e != api.OK || bad != 0 {
			t.Fatal(s, wide, bad, e)
		}
		for i := range l {
			if !holds(wide[i].Press, l[i].Press) || !holds(s[i].Press, l[i].Press) || s[i].Temp != l[i].Temp || s[i].Height != l[i].Height {
				t.Fatal(s, l, wide)
			}
		}
	}
}

// Pressures do not rise, and the air between two heights holds that between any heights between them.
func TestP2_8Inner(t *testing.T) {
	r := rand.New(rand.NewSource(6))
	for range 3000 {
		s := someSounding(r)
		l, _, e := air.Settle(s)
		if e != api.OK {
			continue
		}
		for i := range l[1:] {
			if l[i].Press.Lo < l[i+1].Press.Lo || l[i].Press.Hi < l[i+1].Press.Hi {
				t.Fatal(s, l)
			}
		}
		for range 5 {
			h := someWithin(r, s[0].Height, s[len(s)-1].Height)
			in := someWithin(r, h.Lo, h.Hi)
			a, e := air.At(s, h)
			b, f := air.At(s, in)
			if e != api.OK || f != api.OK || !holds(a.Press, b.Press) || !holds(a.Temp, b.Temp) || b.Press.Lo > b.Press.Hi {
				t.Fatal(s, h, in, a, b, e, f)
			}
		}
	}
}
