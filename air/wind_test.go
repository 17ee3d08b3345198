package air_test

import (
	"math"
	"math/big"
	"math/rand"
	"testing"

	"ballonet/air"
	"ballonet/api"
)

func wind(xlo, xhi, ylo, yhi int) api.Wind { return api.Wind{X: span(xlo, xhi), Y: span(ylo, yhi)} }

func gale(height int, w api.Wind, gust int) api.Gale {
	return api.Gale{Height: height, Wind: w, Gust: gust}
}

// breeze is the winds of the chapter's examples.
func breeze() []api.Gale {
	return []api.Gale{gale(0, wind(10, 20, 0, 0), 5), gale(1000, wind(30, 60, 0, 0), 2)}
}

func storms(n int) []api.Gale {
	var l []api.Gale
	for i := range n {
		l = append(l, gale(-500+i, wind(-api.MaxWind, api.MaxWind, -api.MaxWind, api.MaxWind), api.MaxGust))
	}
	return l
}

func badWinds() [][]api.Gale {
	bad := [][]api.Gale{nil, {}, storms(api.MaxLevels + 1), make([]api.Gale, 1000)}
	change := func(i int, f func(g *api.Gale)) {
		l := storms(3)
		f(&l[i])
		bad = append(bad, l)
	}
	for i := range 3 {
		for _, h := range []int{-501, 9001, math.MinInt, math.MaxInt} {
			change(i, func(g *api.Gale) { g.Height = h })
		}
		for _, n := range []int{-1, api.MaxGust + 1, math.MinInt, math.MaxInt} {
			change(i, func(g *api.Gale) { g.Gust = n })
		}
		for _, x := range outside(-api.MaxWind, api.MaxWind) {
			change(i, func(g *api.Gale) { g.Wind.X = x })
			change(i, func(g *api.Gale) { g.Wind.Y = x })
		}
	}
	for _, heights := range [][]int{{0, 0, 5}, {0, 5, 5}, {5, 0, 10}, {0, 10, 5}, {2, 1, 0}, {8999, 9000, 9001}, {-501, 0, 1}} {
		l := storms(3)
		for i, h := range heights {
			l[i].Height = h
		}
		bad = append(bad, l)
	}
	return bad
}

func TestP2_3CheckWinds(t *testing.T) {
	for i, l := range [][]api.Gale{
		breeze(), breeze()[:1], storms(1), storms(api.MaxLevels),
		{gale(-500, wind(-1000, -1000, 1000, 1000), 0), gale(9000, wind(1000, 1000, -1000, -1000), 0)},
		{gale(9000, api.Wind{}, 0)},
		{gale(8999, api.Wind{}, 500), gale(9000, api.Wind{}, 500)},
	} {
		if e := air.CheckWinds(l); e != api.OK {
			t.Error(i, e)
		}
	}
	for i, l := range badWinds() {
		if e := air.CheckWinds(l); e != api.ErrWind {
			t.Error(i, l, e)
		}
		for _, h := range []api.Span{only(0), span(1, 0), span(0, math.MaxInt)} {
			if w, e := air.WindAt(l, h); e != api.ErrWind || w != (api.Wind{}) {
				t.Error(i, w, e)
			}
		}
	}
}

func TestP2_3WindAt(t *testing.T) {
	const far = api.MaxBound
	wide := []api.Gale{gale(-500, wind(-10, 8, 0, 0), 0), gale(9000, wind(1, 10, 950, 950), 0)}
	three := []api.Gale{gale(0, wind(-10, 0, 7, 8), 1), gale(10, wind(5, 6, -1, -1), 40), gale(13, wind(0, 5, 100, 200), 9)}
	for i, x := range []struct {
		l    []api.Gale
		h    api.Span
		want api.Wind
	}{
		{breeze(), only(500), wind(15, 45, -5, 5)},
		{breeze(), only(1500), wind(28, 62, -2, 2)},
		{breeze(), only(-1), wind(5, 25, -5, 5)},
		{breeze(), only(1001), wind(28, 62, -2, 2)},
		// A gale's gust is felt as far as the next gales.
		{breeze(), only(0), wind(5, 25, -5, 5)},
		{breeze(), only(1000), wind(25, 65, -5, 5)},
		{breeze(), span(1000, 1500), wind(25, 65, -5, 5)},
		{breeze(), span(1001, 1500), wind(28, 62, -2, 2)},
		{breeze(), span(-far, far), wind(5, 65, -5, 5)},
		{breeze(), span(-far, -far), wind(5, 25, -5, 5)},
		{breeze(), span(far, far), wind(28, 62, -2, 2)},
		{breeze(), span(250, 750), wind(10, 55, -5, 5)},
		// Rounded outwards: from 10 to 20 + 1 * 40 / 1000.
		{breeze(), span(-3, 1), wind(5, 26, -5, 5)},
		{breeze()[:1], only(0), wind(5, 25, -5, 5)},
		{breeze()[:1], only(9000), wind(5, 25, -5, 5)},
		{breeze()[1:], span(-far, far), wind(28, 62, -2, 2)},
		{breeze()[1:], only(999), wind(28, 62, -2, 2)},
		{three, only(-1), wind(-11, 1, 6, 9)},
		{three, only(0), wind(-50, 40, -33, 48)},
		{three, only(1), wind(-49, 41, -34, 48)},
		{three, only(11), wind(-37, 46, -8, 106)},
		{three, only(13), wind(-40, 45, 60, 240)},
		{three, only(14), wind(-9, 14, 91, 209)},
		{three, span(14, 99), wind(-9, 14, 91, 209)},
		{three, span(13, 99), wind(-40, 45, 60, 240)},
		{three, span(-5, -1), wind(-11, 1, 6, 9)},
		{three, span(-5, 0), wind(-50, 40, -33, 48)},
		{three, span(-5, 99), wind(-50, 46, -41, 240)},
		{three, span(9, 12), wind(-39, 46, -41, 173)},
		// From the least height to the greatest one.
		{wide, only(-500), wind(-10, 8, 0, 0)},
		{wide, only(-499), wind(-10, 9, 0, 1)},
		{wide, only(9000), wind(1, 10, 950, 950)},
		{wide, only(8999), wind(0, 10, 949, 950)},
		{wide, span(9001, far), wind(1, 10, 950, 950)},
		{wide, span(-far, -501), wind(-10, 8, 0, 0)},
		{wide[:1], only(-500), wind(-10, 8, 0, 0)},
		{wide[1:], only(9000), wind(1, 10, 950, 950)},
		{storms(16), only(-490), wind(-1500, 1500, -1500, 1500)},
	} {
		if w, e := air.WindAt(x.l, x.h); e != api.OK || w != x.want {
			t.Error(i, w, e)
		}
	}
	for _, h := range badSpans() {
		if w, e := air.WindAt(breeze(), h); e != api.ErrSpan || w != (api.Wind{}) {
			t.Error(h, w, e)
		}
	}
}

// someGales returns winds, near each other in height or far.
func someGales(r *rand.Rand) []api.Gale {
	n := 1 + r.Intn(5)
	if r.Intn(8) == 0 {
		n = 16
	}
	part := func() api.Span {
		a, b := r.Intn(2001)-1000, r.Intn(2001)-1000
		if r.Intn(2) == 0 {
			b = min(a+r.Intn(20), 1000)
		}
		return span(min(a, b), max(a, b))
	}
	var l []api.Gale
	for _, h := range someHeights(r, n, []int{2, 30, 500}[r.Intn(3)]) {
		l = append(l, gale(h, api.Wind{X: part(), Y: part()}, []int{0, 3, r.Intn(501), r.Intn(501)}[r.Intn(4)]))
	}
	return l
}

// steadyAt returns the least span of one part of the steady wind at a whole height.
func steadyAt(l []api.Gale, height int, part func(g api.Gale) api.Span) api.Span {
	if height <= l[0].Height {
		return part(l[0])
	}
	for i, b := range l[1:] {
		a := l[i]
		if height <= b.Height {
			return span(
				lineDown(a.Height, part(a).Lo, b.Height, part(b).Lo, height),
				lineUp(a.Height, part(a).Hi, b.Height, part(b).Hi, height),
			)
		}
	}
	return part(l[len(l)-1])
}

// gustAt returns the gust between two heights.
func gustAt(l []api.Gale, h api.Span) int {
	gust := 0
	for i, g := range l {
		between := h.Lo <= g.Height && g.Height <= h.Hi
		lastBelow := g.Height < h.Lo && (i == len(l)-1 || l[i+1].Height >= h.Lo)
		firstAbove := g.Height > h.Hi && (i == 0 || l[i-1].Height <= h.Hi)
		if between || lastBelow || firstAbove {
			gust = max(gust, g.Gust)
		}
	}
	return gust
}

func join(a, b api.Span) api.Span { return span(min(a.Lo, b.Lo), max(a.Hi, b.Hi)) }

// The winds are the least spans of what blows at all heights between the two, and the gust beyond.
func TestP2_3WindAtAll(t *testing.T) {
	east := func(g api.Gale) api.Span { return g.Wind.X }
	north := func(g api.Gale) api.Span { return g.Wind.Y }
	r := rand.New(rand.NewSource(11))
	for range 1500 {
		l := someGales(r)
		from, to := l[0].Height-5, l[len(l)-1].Height+5
		for range 6 {
			h := span(from+r.Intn(to-from+1), 0)
			h.Hi = min(h.Lo+r.Intn(60), to)
			x, y := steadyAt(l, h.Lo, east), steadyAt(l, h.Lo, north)
			for at := h.Lo + 1; at <= h.Hi; at++ {
				x, y = join(x, steadyAt(l, at, east)), join(y, steadyAt(l, at, north))
			}
			g := gustAt(l, h)
			want := wind(x.Lo-g, x.Hi+g, y.Lo-g, y.Hi+g)
			if w, e := air.WindAt(l, h); e != api.OK || w != want {
				t.Fatal(l, h, w, want, e)
			}
		}
	}
}

// P2.9 and N2: a steady wind with any gust is in what WindAt returns.
func TestP2_9Gusts(t *testing.T) {
	r := rand.New(rand.NewSource(12))
	for range 3000 {
		l := someGales(r)
		// The wind is somewhere in its spans at each gale, and linear between them.
		x := make([]float64, len(l))
		for i, g := range l {
			x[i] = float64(g.Wind.X.Lo) + r.Float64()*float64(g.Wind.X.Hi-g.Wind.X.Lo)
		}
		for range 5 {
			h := float64(l[0].Height-3) + r.Float64()*float64(l[len(l)-1].Height-l[0].Height+6)
			blows, gust := x[0], l[0].Gust
			for i, g := range l {
				if h < float64(g.Height) {
					if i > 0 {
						a := float64(l[i-1].Height)
						blows += (x[i] - blows) * (h - a) / (float64(g.Height) - a)
						gust = max(gust, g.Gust)
					}
					break
				}
				blows, gust = x[i], g.Gust
			}
			blows += (2*r.Float64() - 1) * float64(gust)
			w, e := air.WindAt(l, span(int(math.Floor(h))-r.Intn(2), int(math.Ceil(h))+r.Intn(2)))
			if e != api.OK || blows < float64(w.X.Lo)-1e-6 || blows > float64(w.X.Hi)+1e-6 {
				t.Fatal(l, h, blows, w, e)
			}
		}
	}
}

// badBlows are winds of which Speed and Along make an error, and the error.
func badBlows() []struct {
	w api.Wind
	e api.Errno
} {
	type row = struct {
		w api.Wind
		e api.Errno
	}
	var l []row
	for _, s := range badSpans() {
		l = append(l, row{api.Wind{X: s}, api.ErrSpan}, row{api.Wind{Y: s}, api.ErrSpan}, row{api.Wind{X: s, Y: s}, api.ErrSpan})
		l = append(l, row{api.Wind{X: only(2001), Y: s}, api.ErrSpan}, row{api.Wind{X: s, Y: only(2001)}, api.ErrSpan})
	}
	for _, s := range []api.Span{span(-2001, 0), span(0, 2001), only(2001), only(-2001), span(-api.MaxBound, api.MaxBound), only(api.MaxBound), only(-api.MaxBound)} {
		l = append(l, row{api.Wind{X: s}, api.ErrArg}, row{api.Wind{Y: s}, api.ErrArg}, row{api.Wind{X: s, Y: s}, api.ErrArg})
	}
	return l
}

func TestP2_4Speed(t *testing.T) {
	for i, x := range []struct {
		w    api.Wind
		want api.Span
	}{
		{wind(3, 3, -4, 4), span(3, 5)},
		{api.Wind{}, only(0)},
		{wind(3, 3, 4, 4), only(5)},
		{wind(-3, -3, -4, -4), only(5)},
		{wind(1, 1, 1, 1), span(1, 2)},
		{wind(-5, 4, 0, 0), span(0, 5)},
		{wind(-4, 5, -12, 1), span(0, 13)},
		{wind(-5, -3, 4, 12), span(5, 13)},
		{wind(3, 5, -12, -4), span(5, 13)},
		{wind(-7, -1, 0, 0), span(1, 7)},
		{wind(0, 2000, -2000, 0), span(0, 2829)},
		{wind(-2000, 2000, -2000, 2000), span(0, 2829)},
		{wind(2000, 2000, -2000, -2000), span(2828, 2829)},
		{wind(-2000, -2000, 0, 0), only(2000)},
	} {
		if s, e := air.Speed(x.w); e != api.OK || s != x.want {
			t.Error(i, s, e)
		}
	}
	for i, x := range badBlows() {
		if s, e := air.Speed(x.w); e != x.e || s != (api.Span{}) {
			t.Error(i, x.w, s, e)
		}
	}
}

func TestP2_4Along(t *testing.T) {
	for i, x := range []struct {
		w      api.Wind
		dx, dy int
		want   api.Span
		e      api.Errno
	}{
		{wind(30, 30, 10, 10), 3, 4, only(26), api.OK},
		{wind(30, 30, 10, 10), -3, -4, only(-26), api.OK},
		{wind(30, 30, 10, 10), 4, -3, only(18), api.OK},
		{wind(30, 30, 10, 10), 6000, 8000, only(26), api.OK},
		{wind(10, 20, -5, 5), 1, 0, span(10, 20), api.OK},
		{wind(10, 20, -5, 5), -1, 0, span(-20, -10), api.OK},
		{wind(10, 20, -5, 5), 0, 7, span(-5, 5), api.OK},
		{wind(10, 20, -5, 5), 0, -10000, span(-5, 5), api.OK},
		// (10 - 5) / 1.414.. and (20 + 5) / 1.414..
		{wind(10, 20, -5, 5), 1, 1, span(3, 18), api.OK},
		{wind(10, 20, -5, 5), -1, -1, span(-18, -3), api.OK},
		{wind(1, 1, 0, 0), 1, 1, span(0, 1), api.OK},
		{wind(-1, -1, 0, 0), 1, 1, span(-1, 0), api.OK},
		{wind(-1, 1, 0, 0), 1, 1, span(-1, 1), api.OK},
		{api.Wind{}, 1, 1, only(0), api.OK},
		{wind(0, 0, 7, 7), 1, 0, only(0), api.OK},
		{wind(2000, 2000, 2000, 2000), 10000, 10000, span(2828, 2829), api.OK},
		{wind(-2000, 2000, -2000, 2000), 10000, -10000, span(-2829, 2829), api.OK},
		{wind(2000, 2000, 2000, 2000), -10000, -9999, span(-2829, -2828), api.OK},
		{wind(1, 2, 3, 4), 0, 0, api.Span{}, api.ErrArg},
		{wind(1, 2, 3, 4), 10001, 0, api.Span{}, api.ErrArg},
		{wind(1, 2, 3, 4), -10001, 0, api.Span{}, api.ErrArg},
		{wind(1, 2, 3, 4), 0, 10001, api.Span{}, api.ErrArg},
		{wind(1, 2, 3, 4), 0, -10001, api.Span{}, api.ErrArg},
		{wind(1, 2, 3, 4), math.MinInt, math.MinInt, api.Span{}, api.ErrArg},
		{wind(1, 2, 3, 4), math.MaxInt, 1, api.Span{}, api.ErrArg},
		{wind(1, 2, 3, 4), 1, math.MinInt, api.Span{}, api.ErrArg},
		{wind(1, 2, 3, 4), 1 << 32, 1 << 32, api.Span{}, api.ErrArg},
	} {
		if s, e := air.Along(x.w, x.dx, x.dy); e != x.e || s != x.want {
			t.Error(i, s, e)
		}
	}
	for i, x := range badBlows() {
		for _, d := range [][2]int{{3, 4}, {0, 0}, {10001, 0}, {math.MinInt, math.MaxInt}} {
			if s, e := air.Along(x.w, d[0], d[1]); e != x.e || s != (api.Span{}) {
				t.Error(i, x.w, d, s, e)
			}
		}
	}
}

// someWind returns a wind of which Speed and Along tell something.
func someWind(r *rand.Rand) api.Wind {
	most := []int{3, 60, 2000}[r.Intn(3)]
	part := func() api.Span {
		a, b := r.Intn(2*most+1)-most, r.Intn(2*most+1)-most
		if r.Intn(3) == 0 {
			b = a
		}
		return span(min(a, b), max(a, b))
	}
	return api.Wind{X: part(), Y: part()}
}

// leastWhole checks that s is rounded outwards: compare tells whether a number is below (-1), at (0) or above (1) an end.
func leastWhole(s api.Span, low, high func(n int) int) bool {
	return low(s.Lo) <= 0 && low(s.Lo+1) > 0 && high(s.Hi) >= 0 && high(s.Hi-1) < 0
}

func TestP2_4SpeedAll(t *testing.T) {
	r := rand.New(rand.NewSource(13))
	for range 20000 {
		w := someWind(r)
		nearest := func(s api.Span) int { return max(s.Lo, -s.Hi, 0) }
		furthest := func(s api.Span) int { return max(-s.Lo, s.Hi) }
		low := nearest(w.X)*nearest(w.X) + nearest(w.Y)*nearest(w.Y)
		high := furthest(w.X)*furthest(w.X) + furthest(w.Y)*furthest(w.Y)
		than := func(square int) func(n int) int {
			return func(n int) int {
				if n < 0 {
					return -1
				}
				return n*n - square
			}
		}
		if s, e := air.Speed(w); e != api.OK || !leastWhole(s, than(low), than(high)) {
			t.Fatal(w, s, e)
		}
	}
}

// P2.4 and P2.9: Along tells the least span of all numbers; backwards it has its sign changed.
func TestP2_9Along(t *testing.T) {
	r := rand.New(rand.NewSource(14))
	for range 20000 {
		w := someWind(r)
		most := []int{3, 100, 10000}[r.Intn(3)]
		dx, dy := r.Intn(2*most+1)-most, r.Intn(2*most+1)-most
		if dx == 0 && dy == 0 {
			continue
		}
		// than compares a whole number n with v divided by the length of the way: n times the length with v.
		than := func(v int) func(n int) int {
			return func(n int) int {
				a := new(big.Int).Mul(big.NewInt(int64(n*n)), big.NewInt(int64(dx*dx+dy*dy)))
				b := big.NewInt(int64(v * v))
				if n < 0 {
					a.Neg(a)
				}
				if v < 0 {
					b.Neg(b)
				}
				return a.Cmp(b)
			}
		}
		low, high := math.MaxInt, math.MinInt
		for _, x := range []int{w.X.Lo, w.X.Hi} {
			for _, y := range []int{w.Y.Lo, w.Y.Hi} {
				low, high = min(low, x*dx+y*dy), max(high, x*dx+y*dy)
			}
		}
		s, e := air.Along(w, dx, dy)
		if e != api.OK || !leastWhole(s, than(low), than(high)) {
			t.Fatal(w, dx, dy, s, e)
		}
		if back, e := air.Along(w, -dx, -dy); e != api.OK || back != span(-s.Hi, -s.Lo) {
			t.Fatal(w, dx, dy, s, back, e)
		}
	}
}

// squares returns from which to which square the numbers of a span have.
func squares(s api.Span) api.Span {
	low := max(s.Lo, -s.Hi, 0)
	high := max(-s.Lo, s.Hi)
	return span(low*low, high*high)
}

// P2.9: the squares of the wind along and across, together, are that of the speed.
func TestP2_9Across(t *testing.T) {
	r := rand.New(rand.NewSource(15))
	for range 20000 {
		x, y := r.Intn(4001)-2000, r.Intn(4001)-2000
		dx, dy := r.Intn(20001)-10000, 1+r.Intn(10000)
		w := wind(x, x, y, y)
		along, e := air.Along(w, dx, dy)
		across, f := air.Along(w, dy, -dx)
		speed, g := air.Speed(w)
		if e != api.OK || f != api.OK || g != api.OK {
			t.Fatal(w, dx, dy, e, f, g)
		}
		both := span(squares(along).Lo+squares(across).Lo, squares(along).Hi+squares(across).Hi)
		if n := x*x + y*y; !holds(both, only(n)) || !holds(squares(speed), only(n)) {
			t.Fatal(w, dx, dy, along, across, speed)
		}
	}
	// Where nothing is rounded, they are equal.
	for _, w := range []api.Wind{wind(30, 30, 40, 40), wind(-15, -15, 20, 20), wind(25, 25, 0, 0)} {
		along, _ := air.Along(w, 3, 4)
		across, _ := air.Along(w, -4, 3)
		speed, _ := air.Speed(w)
		if along.Lo != along.Hi || across.Lo != across.Hi || along.Lo*along.Lo+across.Lo*across.Lo != speed.Lo*speed.Lo {
			t.Error(w, along, across, speed)
		}
	}
}
