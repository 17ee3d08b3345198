package route_test

import (
	"math"
	"slices"
	"testing"

	"ballonet/api"
	"ballonet/route"
)

func span(lo, hi int) api.Span { return api.Span{Lo: lo, Hi: hi} }

func only(n int) api.Span { return span(n, n) }

// winds returns winds that are the same at all heights.
func winds(x, y api.Span) []api.Gale { return []api.Gale{{Wind: api.Wind{X: x, Y: y}}} }

// asked is what most functions are asked about.
type asked struct {
	c api.Chart
	p api.Pace
	f [][]api.Gale
}

func track(a, b, x, y, least int) api.Track { return api.Track{A: a, B: b, X: x, Y: y, Least: least} }

func chart(ports []bool, tracks ...api.Track) api.Chart {
	return api.Chart{Ports: ports, Tracks: tracks}
}

// plain is the chart, the pace and the forecast of the chapter's examples.
func plain() asked {
	return asked{
		chart([]bool{true, false, true}, track(0, 1, 300, 400, 500), track(1, 2, 300, 0, 200)),
		api.Pace{Speed: 200, Cruise: 600, Margin: 200, Top: 800, Reserve: 100, Burn: span(6, 12)},
		[][]api.Gale{winds(span(30, 60), only(80))},
	}
}

// still is a chart without wind, at a pace of a metre a second, which burns one for each second: so a track's fuel is its length.
func still(ports []bool, tracks ...api.Track) asked {
	return asked{chart(ports, tracks...), api.Pace{Speed: 10, Top: 9000, Burn: only(60)}, [][]api.Gale{winds(only(0), only(0))}}
}

func (a asked) part(track int, back bool, m int) (time, fuel api.Span, e api.Errno) {
	return route.Part(a.c, a.p, a.f, track, back, m)
}

// badCharts are charts that are not valid.
func badCharts() []api.Chart {
	sites := []bool{true, false, true}
	good := track(0, 1, 300, 400, 500)
	bad := []api.Chart{
		{}, {Tracks: []api.Track{good}}, {Ports: make([]bool, 13)},
		{Ports: sites, Tracks: slices.Repeat([]api.Track{good}, 41)},
		chart(sites, good, track(2, 2, 1, 1, 0)), chart(sites, good, track(0, 1, 0, 0, 0)), chart(sites, good, api.Track{}),
	}
	for _, n := range []int{-1, 3, math.MinInt, math.MaxInt} {
		bad = append(bad, chart(sites, good, track(n, 1, 3, 4, 0)), chart(sites, good, track(1, n, 3, 4, 0)), chart(sites, track(n, n+1, 3, 4, 0), good))
	}
	for _, n := range []int{-7001, 7001, math.MinInt, math.MaxInt, 1 << 32} {
		bad = append(bad, chart(sites, good, track(0, 1, n, 4, 0)), chart(sites, good, track(0, 1, 3, n, 0)), chart(sites, good, track(0, 1, n, 0, 0)))
	}
	for _, n := range []int{-501, 9001, math.MinInt, math.MaxInt} {
		bad = append(bad, chart(sites, good, track(0, 1, 3, 4, n)))
	}
	return bad
}

func TestP6_2CheckChart(t *testing.T) {
	for i, c := range []api.Chart{
		plain().c, chart([]bool{false}), chart(make([]bool, 12), track(11, 0, 7000, -7000, -500), track(0, 11, -7000, 7000, 9000)),
		chart([]bool{true, true}, slices.Repeat([]api.Track{track(1, 0, 0, 1, 0)}, 40)...), chart([]bool{true, true}, track(0, 1, -1, 0, 0)),
	} {
		if e := route.CheckChart(c); e != api.OK {
			t.Error(i, e)
		}
	}
	for i, c := range badCharts() {
		if e := route.CheckChart(c); e != api.ErrChart {
			t.Error(i, c, e)
		}
	}
}

// badPaces are paces that are not valid.
func badPaces() []api.Pace {
	var bad []api.Pace
	change := func(f func(p *api.Pace)) {
		p := plain().p
		f(&p)
		bad = append(bad, p)
	}
	for _, n := range []int{math.MinInt, math.MaxInt} {
		change(func(p *api.Pace) { p.Speed = n })
		change(func(p *api.Pace) { p.Cruise = n })
		change(func(p *api.Pace) { p.Top = n })
		change(func(p *api.Pace) { p.Margin = n })
		change(func(p *api.Pace) { p.Reserve = n })
		change(func(p *api.Pace) { p.Burn = only(n) })
	}
	for _, n := range []int{0, -1, api.MaxWind + 1} {
		change(func(p *api.Pace) { p.Speed = n })
	}
	for _, n := range []int{-501, 9001} {
		change(func(p *api.Pace) { p.Cruise = n })
		change(func(p *api.Pace) { p.Top = n })
	}
	for _, n := range []int{-1, api.MaxMargin + 1} {
		change(func(p *api.Pace) { p.Margin = n })
	}
	for _, n := range []int{-1, api.MaxDry + 1} {
		change(func(p *api.Pace) { p.Reserve = n })
	}
	for _, s := range []api.Span{span(-1, 5), span(5, api.MaxBurn+1), span(6, 5), span(math.MaxInt, math.MinInt)} {
		change(func(p *api.Pace) { p.Burn = s })
	}
	return append(bad, api.Pace{})
}

func TestP6_2CheckPace(t *testing.T) {
	for i, p := range []api.Pace{
		plain().p, {Speed: 1}, {Speed: 1000, Cruise: 9000, Margin: 2000, Top: -500, Reserve: api.MaxDry, Burn: span(0, api.MaxBurn)},
		{Speed: 1, Cruise: -500, Top: 9000, Burn: only(api.MaxBurn)},
	} {
		if e := route.CheckPace(p); e != api.OK {
			t.Error(i, e)
		}
	}
	for i, p := range badPaces() {
		if e := route.CheckPace(p); e != api.ErrPace {
			t.Error(i, p, e)
		}
	}
}

// badCasts are forecasts some of whose members are not winds.
func badCasts() [][][]api.Gale {
	good := winds(only(5), only(5))
	var bad [][][]api.Gale
	for _, w := range [][]api.Gale{
		nil, {}, make([]api.Gale, 2), make([]api.Gale, 17), winds(only(1001), only(0)), winds(span(2, 1), only(0)), winds(only(0), only(math.MinInt)),
		{{Height: 9001}}, {{Height: -501}}, {{Gust: -1}}, {{Gust: 501}}, {{Height: 5}, {Height: 4}},
	} {
		bad = append(bad, [][]api.Gale{w}, [][]api.Gale{good, w}, [][]api.Gale{w, good}, [][]api.Gale{good, good, good, w})
	}
	return bad
}

func TestP6_2CheckCast(t *testing.T) {
	high := []api.Gale{{Height: -500, Gust: 500}, {Height: 9000, Wind: api.Wind{X: span(-1000, 1000), Y: only(1000)}}}
	for i, f := range [][][]api.Gale{plain().f, {high}, {high, high, high, high}} {
		if e := route.CheckCast(f); e != api.OK {
			t.Error(i, e)
		}
	}
	for i, f := range badCasts() {
		if e := route.CheckCast(f); e != api.ErrWind {
			t.Error(i, f, e)
		}
	}
	// Their number comes before what they are.
	for i, f := range [][][]api.Gale{nil, {}, slices.Repeat([][]api.Gale{high}, 5), make([][]api.Gale, 5)} {
		if e := route.CheckCast(f); e != api.ErrMany {
			t.Error(i, e)
		}
	}
}

func TestP6_2Length(t *testing.T) {
	for i, x := range []struct{ x, y, want int }{
		{300, 400, 50000}, {300, 0, 30000}, {0, -7, 700}, {-3, 4, 500}, {1, 1, 142}, {-1, -2, 224}, {1, 0, 100}, {0, 1, 100},
		{7000, 7000, 989950}, {-7000, 7000, 989950}, {7000, 0, 700000}, {7000, -6999, 989879}, {7000, 1, 700001},
	} {
		c := chart([]bool{true, true}, track(1, 0, 5, 5, 0), track(1, 0, x.x, x.y, 0))
		if n, e := route.Length(c, 1); e != api.OK || n != x.want {
			t.Error(i, n, e)
		}
	}
	for _, n := range []int{-1, 2, math.MinInt, math.MaxInt} {
		if n, e := route.Length(plain().c, n); e != api.ErrArg || n != 0 {
			t.Error(n, e)
		}
	}
	for _, c := range badCharts() {
		for _, track := range []int{0, -1} {
			if n, e := route.Length(c, track); e != api.ErrChart || n != 0 {
				t.Error(c, n, e)
			}
		}
	}
	if n, e := route.Length(chart([]bool{true}), 0); e != api.ErrArg || n != 0 {
		t.Error(n, e)
	}
}

func TestP6_2PartExamples(t *testing.T) {
	a := plain()
	for i, x := range []struct {
		track      int
		back       bool
		m          int
		time, fuel api.Span
	}{
		{0, false, 50000, span(1666, 1786), span(166, 358)},
		{0, true, 50000, span(4237, 5103), span(423, 1021)},
		{1, false, 30000, span(1229, 1409), span(122, 282)},
		{1, true, 30000, span(1948, 2440), span(194, 488)},
		{0, false, 0, only(0), only(0)},
		{1, true, 0, only(0), only(0)},
		// 10 / 300 to 10 / 280, and 280 / 300 to 1.
		{0, false, 1, span(0, 1), span(0, 1)},
		{0, false, 28, span(0, 1), span(0, 1)},
		{0, false, 29, span(0, 2), span(0, 1)},
		{0, false, 30, span(1, 2), span(0, 1)},
		{0, false, 49999, span(1666, 1786), span(166, 358)},
		// The fuel is that of the time as it is rounded: 12 / 60 of 6 is 2, not that of 5.0036.
		{0, false, 141, span(4, 6), span(0, 2)},
	} {
		time, fuel, e := a.part(x.track, x.back, x.m)
		if e != api.OK || time != x.time || fuel != x.fuel {
			t.Error(i, time, fuel, e)
		}
	}
}

// Each edge of what is open, on a track to the east, and back.
func TestP6_2Open(t *testing.T) {
	for i, x := range []struct {
		speed      int
		x, y       api.Span
		open, back bool
	}{
		{10, only(0), only(0), true, true},
		// The slow speed is above 0, or just 0.
		{200, only(-199), only(0), true, true},
		{200, only(-200), only(0), false, true},
		{200, only(199), only(0), true, true},
		{200, only(200), only(0), true, false},
		{200, span(-200, 0), only(0), false, true},
		{200, span(-199, 500), only(0), true, false},
		// The wind across is as fast as the ship, or faster: up and down.
		{200, only(0), only(199), true, true},
		{200, only(1), only(200), true, false},
		{200, only(-1), only(-200), false, true},
		{200, only(0), only(200), false, false},
		{200, only(900), only(201), false, false},
		{200, only(900), only(-201), false, false},
		{200, only(900), span(-300, 0), false, false},
		{200, only(900), span(0, 201), false, false},
		{200, only(900), span(-200, 200), true, false},
		// The slow speed is with the greatest wind across: 200 * 200 less 120 * 120 is 160 * 160.
		{200, only(-159), span(0, 120), true, true},
		{200, only(-160), span(0, 120), false, true},
		{200, only(-159), span(-120, 0), true, true},
		{200, only(-160), span(-120, 60), false, true},
		// Its root is rounded down: 39999 is 199.99 squared.
		{200, only(-198), only(1), true, true},
		{200, only(-199), only(1), false, true},
	} {
		a := plain()
		a.c.Tracks[0].X, a.c.Tracks[0].Y, a.p.Speed = 500, 0, x.speed
		a.f = [][]api.Gale{winds(x.x, x.y)}
		for _, way := range []struct{ back, open bool }{{false, x.open}, {true, x.back}} {
			for _, m := range []int{0, 50000} {
				time, fuel, e := a.part(0, way.back, m)
				if way.open && e != api.OK || !way.open && (e != api.ErrClosed || time != only(0) || fuel != only(0)) {
					t.Error(i, way, m, time, fuel, e)
				}
			}
		}
	}
}

// The height of a track is the greater one of Cruise, and of Least and Margin together, and at most Top.
func TestP6_2Height(t *testing.T) {
	for i, x := range []struct {
		cruise, least, margin, top int
		e                          api.Errno
		along                      int
	}{
		{600, 500, 200, 700, api.OK, 70},
		{600, 500, 200, 699, api.ErrClosed, 0},
		{700, 500, 200, 700, api.OK, 70},
		{710, 500, 200, 710, api.OK, 71},
		{701, 500, 200, 700, api.ErrClosed, 0},
		{600, 300, 200, 600, api.OK, 60},
		{600, 300, 200, 599, api.ErrClosed, 0},
		{600, 600, 0, 600, api.OK, 60},
		{-500, -500, 0, -500, api.OK, 0},
		{-500, -500, 1, -500, api.ErrClosed, 0},
		{0, -500, 2000, 9000, api.OK, 100},
		{9000, 0, 0, 9000, api.OK, 100},
		{0, 9000, 0, 9000, api.OK, 100},
		{0, 9000, 2000, 9000, api.ErrClosed, 0},
		{9000, 9000, 2000, 9000, api.ErrClosed, 0},
	} {
		// To the east there blows a tenth of the height, from 0 to 1000.
		a := still([]bool{true, true}, track(0, 1, 7000, 0, x.least))
		a.f = [][]api.Gale{{{Height: 0}, {Height: 1000, Wind: api.Wind{X: only(100)}}}}
		a.p.Cruise, a.p.Margin, a.p.Top, a.p.Speed = x.cruise, x.margin, x.top, 300
		for _, way := range []struct {
			back  bool
			speed int
		}{{false, 300 + x.along}, {true, 300 - x.along}} {
			want := api.Span{}
			if x.e == api.OK {
				want = span(7000000/way.speed, (7000000+way.speed-1)/way.speed)
			}
			if time, fuel, e := a.part(0, way.back, 700000); e != x.e || time != want || fuel != want {
				t.Error(i, way, time, fuel, e)
			}
		}
	}
}

// The time is from that of the fastest member to that of the slowest one, and a track has to be open in each member.
func TestP6_2Members(t *testing.T) {
	a := still([]bool{true, true}, track(0, 1, 60, 0, 0))
	a.p.Speed = 100
	east := func(lo, hi int) []api.Gale { return winds(span(lo, hi), only(0)) }
	for i, x := range []struct {
		f    [][]api.Gale
		time api.Span
		e    api.Errno
	}{
		{[][]api.Gale{east(0, 0)}, only(600), api.OK},
		{[][]api.Gale{east(20, 20)}, only(500), api.OK},
		{[][]api.Gale{east(0, 20)}, span(500, 600), api.OK},
		{[][]api.Gale{east(0, 0), east(20, 20)}, span(500, 600), api.OK},
		{[][]api.Gale{east(20, 20), east(0, 0)}, span(500, 600), api.OK},
		{[][]api.Gale{east(0, 20), east(-50, 50)}, span(400, 1200), api.OK},
		{[][]api.Gale{east(20, 20), east(-20, 0), east(50, 50), east(0, 0)}, span(400, 750), api.OK},
		{[][]api.Gale{east(0, 0), east(-100, 0)}, only(0), api.ErrClosed},
		{[][]api.Gale{east(-100, -100), east(0, 0)}, only(0), api.ErrClosed},
		{[][]api.Gale{east(0, 0), east(0, 0), east(0, 0), winds(only(0), only(101))}, only(0), api.ErrClosed},
		// Each member's own wind across: 100 * 100 less 60 * 60 is 80 * 80.
		{[][]api.Gale{winds(only(0), only(60)), east(100, 100)}, span(300, 750), api.OK},
		{[][]api.Gale{winds(only(0), span(-60, 60))}, span(600, 750), api.OK},
		{[][]api.Gale{winds(only(0), span(60, 80))}, span(750, 1000), api.OK},
		{[][]api.Gale{winds(only(0), span(-80, -60))}, span(750, 1000), api.OK},
		// A gust blows along and across.
		{[][]api.Gale{{{Gust: 60}}}, span(375, 3000), api.OK},
	} {
		a.f = x.f
		if time, fuel, e := a.part(0, false, 6000); e != x.e || time != x.time || fuel != x.time {
			t.Error(i, time, fuel, e)
		}
	}
}

// The largest numbers: the longest track at the slowest pace, which burns most.
func TestP6_2Largest(t *testing.T) {
	a := still([]bool{true, true}, track(0, 1, 7000, 7000, 0))
	a.p.Speed, a.p.Burn = 1, span(0, api.MaxBurn)
	if time, fuel, e := a.part(0, true, 989950); e != api.OK || time != only(9899500) || fuel != span(0, 164991666667) {
		t.Error(time, fuel, e)
	}
	a.p.Speed, a.f = 1000, [][]api.Gale{{{Height: 0, Wind: api.Wind{X: only(1000), Y: only(1000)}, Gust: 500}}}
	// Along 707 to 2122, and across -708 to 708: the speeds are 1413 and 3122.
	if time, fuel, e := a.part(0, false, 989950); e != api.OK || time != span(3170, 7007) || fuel != span(0, 116783334) {
		t.Error(time, fuel, e)
	}
	if _, _, e := a.part(0, true, 989950); e != api.ErrClosed {
		t.Error(e)
	}
}

func TestP6_2PartErrors(t *testing.T) {
	check := func(a asked, track, m int, want api.Errno) {
		t.Helper()
		for _, back := range []bool{false, true} {
			if time, fuel, e := a.part(track, back, m); e != want || time != only(0) || fuel != only(0) {
				t.Error(track, back, m, time, fuel, e)
			}
		}
	}
	closed := plain()
	closed.p.Top = 0
	for _, a := range []asked{plain(), closed} {
		for _, track := range []int{-1, 2, math.MinInt, math.MaxInt} {
			check(a, track, 0, api.ErrArg)
		}
		for _, m := range []int{-1, 50001, math.MinInt, math.MaxInt} {
			check(a, 0, m, api.ErrArg)
		}
		check(a, 1, 30001, api.ErrArg)
	}
	check(closed, 0, 0, api.ErrClosed)
	check(closed, 0, 50000, api.ErrClosed)
	check(closed, 1, 30000, api.ErrClosed)
}

// refusals calls a function with what is not valid, and the error that comes first.
func refusals(f func(a asked, want api.Errno)) {
	good := plain()
	many := make([][]api.Gale, 5)
	for _, c := range badCharts() {
		f(asked{c, good.p, good.f}, api.ErrChart)
	}
	for _, p := range badPaces() {
		f(asked{good.c, p, good.f}, api.ErrPace)
	}
	for _, cast := range badCasts() {
		f(asked{good.c, good.p, cast}, api.ErrWind)
	}
	f(asked{good.c, good.p, nil}, api.ErrMany)
	f(asked{good.c, good.p, many}, api.ErrMany)
	// Of several the first one.
	f(asked{badCharts()[0], badPaces()[0], many}, api.ErrChart)
	f(asked{badCharts()[0], good.p, badCasts()[0]}, api.ErrChart)
	f(asked{good.c, badPaces()[0], many}, api.ErrPace)
	f(asked{good.c, badPaces()[0], badCasts()[0]}, api.ErrPace)
}

// R1 and R2: all functions with charts, paces and forecasts return their errors first, in this order, and nothing beside them.
func TestP6_2First(t *testing.T) {
	long := make([]int, 21)
	refusals(func(a asked, want api.Errno) {
		for _, x := range []struct {
			at, fuel int
			l        []int
		}{{0, 740, []int{0, 1}}, {0, 740, nil}, {-1, -1, long}, {3, api.MaxBound + 1, []int{9}}} {
			if time, fuel, e := a.part(x.at, true, x.fuel); e != want || time != only(0) || fuel != only(0) {
				t.Error("Part", a, time, fuel, e)
			}
			if l, fuel, e := a.best(x.at, x.at); e != want || len(l) > 0 || fuel != 0 {
				t.Error("Best", a, l, fuel, e)
			}
			if n, e := a.need(x.at); e != want || n != 0 {
				t.Error("Need", a, n, e)
			}
			a.refusesRoutes(t, x.at, x.l, x.fuel, want)
		}
	})
}

// refusesRoutes checks that all functions with routes return an error, and nothing beside it.
func (a asked) refusesRoutes(t *testing.T, from int, l []int, fuel int, want api.Errno) {
	t.Helper()
	if at, e := a.check(from, l, fuel); e != want || at != 0 {
		t.Error("Check", a, at, e)
	}
	if all, e := a.alternates(from, l, fuel); e != want || len(all) > 0 {
		t.Error("Alternates", a, all, e)
	}
	if n, e := a.least(from, l); e != want || n != 0 {
		t.Error("Least", a, n, e)
	}
	if p, e := a.noReturn(from, l, fuel); e != want || p != (api.Point{}) {
		t.Error("NoReturn", a, p, e)
	}
	if p, e := a.equal(from, l); e != want || p != (api.Point{}) {
		t.Error("Equal", a, p, e)
	}
}
