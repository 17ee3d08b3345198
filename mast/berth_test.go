package mast_test

import (
	"math"
	"math/rand"
	"slices"
	"testing"

	"ballonet/api"
	"ballonet/mast"
)

// badPorts returns ports that are not valid.
func badPorts() []api.Port {
	var l []api.Port
	add := func(change func(p *api.Port)) {
		p := port()
		change(&p)
		l = append(l, p)
	}
	for _, axes := range [][]api.Axis{nil, slices.Repeat(threeAxes(), 11), append(threeAxes(), axis(0, 0)), {axis(1001, 0)}} {
		add(func(p *api.Port) { p.Axes = axes })
	}
	for _, n := range []int{-1, math.MinInt, math.MaxInt, 1 << 32} {
		add(func(p *api.Port) { p.People = n })
		add(func(p *api.Port) { p.Most = n })
		add(func(p *api.Port) { p.Cross = n })
	}
	add(func(p *api.Port) { p.People = 201 })
	add(func(p *api.Port) { p.Most = 0 })
	add(func(p *api.Port) { p.Most = 1000001 })
	add(func(p *api.Port) { p.Cross = 2001 })
	for _, pulls := range badPulls() {
		add(func(p *api.Port) { p.Pulls = pulls })
	}
	return l
}

func TestP7_4CheckPort(t *testing.T) {
	for i, p := range []api.Port{
		port(), smallPort(),
		{Axes: []api.Axis{axis(0, 1)}, Most: 1},
		{Axes: slices.Repeat([]api.Axis{axis(1000, -1000)}, 32), People: 200, Most: 1000000, Pulls: slices.Repeat([]api.Span{span(0, 1000000)}, 8), Cross: 2000},
		// A port may need more people than there are.
		{Axes: threeAxes(), Most: 1, Pulls: slices.Repeat([]api.Span{only(1000000)}, 8)},
	} {
		if e := mast.CheckPort(p); e != api.OK {
			t.Error(i, e)
		}
	}
	for i, p := range badPorts() {
		if e := mast.CheckPort(p); e != api.ErrPort {
			t.Error(i, p, e)
		}
	}
}

func TestP7_4CheckBerth(t *testing.T) {
	for i, x := range []struct {
		b    api.Berth
		want api.Errno
	}{
		{api.Berth{}, api.OK},
		{api.Berth{Axis: 2, Open: true}, api.OK},
		{api.Berth{Axis: 3}, api.ErrBerth},
		{api.Berth{Axis: -1}, api.ErrBerth},
		{api.Berth{Axis: math.MaxInt}, api.ErrBerth},
		{api.Berth{Axis: math.MinInt}, api.ErrBerth},
		{api.Berth{Ship: 6}, api.ErrBerth},
		{api.Berth{Ship: 255}, api.ErrBerth},
		{api.Berth{Held: 8}, api.ErrBerth},
		{api.Berth{Wire: true}, api.ErrBerth},
		{api.Berth{Ship: api.ShipOver}, api.OK},
		{api.Berth{Ship: api.ShipOver, Open: true}, api.OK},
		{api.Berth{Ship: api.ShipOver, Held: 8}, api.ErrBerth},
		{api.Berth{Ship: api.ShipOver, Wire: true}, api.ErrBerth},
		{api.Berth{Ship: api.ShipLined}, api.ErrBerth},
		{api.Berth{Ship: api.ShipLined, Wire: true}, api.ErrBerth},
		{api.Berth{Ship: api.ShipLined, Held: 8}, api.OK},
		{api.Berth{Ship: api.ShipLined, Held: 8, Wire: true, Open: true}, api.OK},
		{api.Berth{Ship: api.ShipLined, Held: 12, Wire: true}, api.OK},
		{api.Berth{Ship: api.ShipLined, Held: 7}, api.ErrBerth},
		{api.Berth{Ship: api.ShipLined, Held: 13}, api.ErrBerth},
		{api.Berth{Ship: api.ShipLined, Held: -1}, api.ErrBerth},
		{api.Berth{Ship: api.ShipLined, Held: math.MaxInt}, api.ErrBerth},
		{api.Berth{Ship: api.ShipLined, Held: math.MinInt}, api.ErrBerth},
		{api.Berth{Ship: api.ShipMasted}, api.OK},
		{api.Berth{Ship: api.ShipMasted, Held: 8, Open: true}, api.OK},
		{api.Berth{Ship: api.ShipMasted, Held: 7}, api.ErrBerth},
		{api.Berth{Ship: api.ShipMasted, Held: -8}, api.ErrBerth},
		{api.Berth{Ship: api.ShipMasted, Wire: true}, api.ErrBerth},
		{api.Berth{Ship: api.ShipMasted, Held: 8, Wire: true}, api.ErrBerth},
		{api.Berth{Ship: api.ShipWalking}, api.ErrBerth},
		{api.Berth{Ship: api.ShipWalking, Held: 8}, api.ErrBerth},
		{api.Berth{Ship: api.ShipWalking, Open: true}, api.ErrBerth},
		{api.Berth{Ship: api.ShipWalking, Held: 8, Open: true}, api.OK},
		{api.Berth{Ship: api.ShipWalking, Held: 8, Open: true, Wire: true}, api.ErrBerth},
		{api.Berth{Ship: api.ShipHoused}, api.OK},
		{api.Berth{Ship: api.ShipHoused, Held: 12, Open: true, Axis: 1}, api.OK},
		{api.Berth{Ship: api.ShipHoused, Held: 13}, api.ErrBerth},
		{api.Berth{Ship: api.ShipHoused, Wire: true}, api.ErrBerth},
	} {
		if e := mast.CheckBerth(port(), x.b); e != x.want {
			t.Error(i, x.b, e)
		}
	}
}

// The need is the sum of what all lines need, and at least 1; nobody holds lines where it is more than there are people.
func TestP7_4Need(t *testing.T) {
	for i, x := range []struct {
		pulls        []api.Span
		people, most int
		need         int
	}{
		{nil, 5, 1, 1}, {upTo(0, 0), 5, 1, 1}, {upTo(0, 1), 5, 1, 1}, {upTo(1, 1), 5, 7, 2}, {upTo(7, 8), 5, 7, 3}, {upTo(7, 15), 5, 7, 4},
		{upTo(1000000), 200, 5000, 200}, {upTo(1000000), 200, 4999, 201}, {upTo(3), 2, 1, 3}, {nil, 0, 1, 1}, {slices.Repeat(upTo(1000000), 8), 200, 1, 8000000},
	} {
		p := api.Port{Axes: threeAxes(), People: x.people, Most: x.most, Pulls: x.pulls}
		for held := 1; held <= 202; held++ {
			is := mast.CheckBerth(p, api.Berth{Ship: api.ShipMasted, Held: held}) == api.OK
			_, rule, e := mast.Do(p, api.Berth{Ship: api.ShipMasted}, in(breeze(), api.MastLines, held))
			want := held >= x.need && held <= x.people
			if is != want || (e == api.OK) != want || !want && rule != 3 {
				t.Error(i, held, is, rule, e)
			}
		}
		if e := mast.CheckBerth(p, api.Berth{Ship: api.ShipMasted}); e != api.OK {
			t.Error(i, e)
		}
	}
}

// first returns the number of the first rule that does not hold, or 0.
func first(rules ...bool) int { return slices.Index(rules, false) + 1 }

// done returns a berth after an act, or the number of the rule by which it is locked, as the chapter's table tells it; the wind is calm or not for the axis of the berth.
func done(b api.Berth, a api.MastAct, need, people, axes int, calm bool) (c api.Berth, rule int) {
	c = b
	switch a.Kind {
	case 1:
		rule, c.Ship = first(b.Ship == 0), 1
	case 2:
		rule, c.Held = first(b.Ship == 1 || b.Ship == 3 || b.Ship == 5, b.Held == 0, need <= a.N && a.N <= people), a.N
		if b.Ship == 1 {
			c.Ship = 2
		}
	case 3:
		rule, c.Held = first(b.Ship == 2 || b.Ship == 3 || b.Ship == 5, !b.Wire, b.Held > 0), 0
		if b.Ship == 2 {
			c.Ship = 1
		}
	case 4:
		rule, c.Wire = first(b.Ship == 2, !b.Wire), true
	case 5:
		rule, c.Ship, c.Wire = first(b.Ship == 2, b.Wire), 3, false
	case 6:
		rule, c.Ship = first(b.Ship == 3, b.Held == 0), 0
	case 7:
		rule, c.Open = first(!b.Open), true
	case 8:
		rule, c.Open = first(b.Open, b.Ship != 4), false
	case 9:
		rule, c.Axis = first(a.N >= 0 && a.N < axes && a.N != b.Axis, !b.Open), a.N
	case 10:
		rule, c.Ship = first(b.Ship == 3, b.Held > 0, b.Open, calm), 4
	case 11:
		rule, c.Ship = first(b.Ship == 4, calm), 5
	case 12:
		rule, c.Ship = first(b.Ship == 5, b.Held > 0, b.Open, calm), 4
	case 13:
		rule, c.Ship = first(b.Ship == 4), 3
	}
	if rule > 0 {
		c = api.Berth{}
	}
	return c, rule
}

func TestP7_4Do(t *testing.T) {
	p := smallPort()
	locks := map[[2]int]int{}
	for _, w := range []api.Wind{breeze(), wind(only(0), only(0)), wind(only(25), only(0)), wind(span(25, 26), only(0)), wind(span(-2000, 2000), span(-2000, 2000))} {
		for _, b := range allBerths(p) {
			calm, _ := mast.Calm(w, p.Axes[b.Axis], p.Cross)
			for _, a := range allActs(p) {
				c, rule, e := mast.Do(p, b, api.MastStep{Act: a, Wind: w})
				want, locked := done(b, a, 2, 4, 3, calm)
				wantE := api.OK
				switch {
				case a.Kind < 1 || a.Kind > 13:
					want, wantE = api.Berth{}, api.ErrArg
				case locked > 0:
					wantE = api.ErrLock
				}
				if c != want || rule != locked || e != wantE {
					t.Fatal(w, b, a, c, rule, e, "want", want, locked, wantE)
				}
				locks[[2]int{int(a.Kind), rule}]++
			}
		}
	}
	// Each act is done, and locked by each of its rules.
	for kind, rules := range []int{0, 1, 3, 3, 2, 2, 2, 1, 2, 2, 4, 2, 4, 1} {
		for rule := range rules + 1 {
			if locks[[2]int{kind, rule}] == 0 {
				t.Error(kind, rule)
			}
		}
	}
}

func TestP7_4DoErrors(t *testing.T) {
	masted, bad := api.Berth{Ship: api.ShipMasted, Held: 8, Open: true}, badWinds()[0]
	for i, x := range []struct {
		b    api.Berth
		s    api.MastStep
		rule int
		want api.Errno
	}{
		{masted, in(breeze(), api.MastWalk, 0), 4, api.ErrLock},
		{masted, in(bad, api.MastWalk, 0), 0, api.ErrBlow},
		{masted, in(bad, api.MastCome, 0), 0, api.ErrBlow},
		{masted, in(bad, 0, 0), 0, api.ErrBlow},
		{masted, in(bad, 14, 0), 0, api.ErrBlow},
		{masted, in(breeze(), 0, 0), 0, api.ErrArg},
		{masted, in(breeze(), 14, 0), 0, api.ErrArg},
		{masted, in(breeze(), 255, 0), 0, api.ErrArg},
		{api.Berth{Ship: 6}, in(bad, 0, 0), 0, api.ErrBerth},
		{api.Berth{Ship: 6}, in(breeze(), 7, 0), 0, api.ErrBerth},
		{masted, in(breeze(), api.MastTurn, 3), 1, api.ErrLock},
		{masted, in(breeze(), api.MastTurn, 0), 1, api.ErrLock},
		{masted, in(breeze(), api.MastTurn, -1), 1, api.ErrLock},
		{masted, in(breeze(), api.MastTurn, math.MaxInt), 1, api.ErrLock},
		{masted, in(breeze(), api.MastTurn, math.MinInt), 1, api.ErrLock},
		{masted, in(breeze(), api.MastTurn, 1), 2, api.ErrLock},
		{api.Berth{Ship: api.ShipOver}, in(breeze(), api.MastLines, math.MaxInt), 3, api.ErrLock},
		{api.Berth{Ship: api.ShipOver}, in(breeze(), api.MastLines, math.MinInt), 3, api.ErrLock},
		{api.Berth{Ship: api.ShipOver}, in(breeze(), api.MastLines, 7), 3, api.ErrLock},
		{api.Berth{Ship: api.ShipOver}, in(breeze(), api.MastLines, 13), 3, api.ErrLock},
	} {
		if c, rule, e := mast.Do(port(), x.b, x.s); c != (api.Berth{}) || rule != x.rule || e != x.want {
			t.Error(i, c, rule, e)
		}
	}
	for i, p := range badPorts() {
		if c, rule, e := mast.Do(p, api.Berth{Ship: 6}, in(bad, 0, 0)); c != (api.Berth{}) || rule != 0 || e != api.ErrPort {
			t.Error(i, c, rule, e)
		}
		if e := mast.CheckBerth(p, api.Berth{Ship: 6, Axis: -1}); e != api.ErrPort {
			t.Error(i, e)
		}
	}
	// The numbers of acts without one are any.
	for _, n := range []int{math.MinInt, -1, 7, math.MaxInt} {
		if c, rule, e := mast.Do(port(), api.Berth{}, in(breeze(), api.MastCome, n)); c != (api.Berth{Ship: api.ShipOver}) || rule != 0 || e != api.OK {
			t.Error(n, c, rule, e)
		}
	}
}

// housing is the chapter's plan, in its wind.
func housing() []api.MastStep {
	var l []api.MastStep
	for _, a := range housingActs() {
		l = append(l, api.MastStep{Act: a, Wind: breeze()})
	}
	return l
}

func housingActs() []api.MastAct {
	return []api.MastAct{
		act(api.MastCome, 0), act(api.MastLines, 8), act(api.MastWire, 0), act(api.MastCouple, 0),
		act(api.MastTurn, 1), act(api.MastOpen, 0), act(api.MastWalk, 0), act(api.MastIn, 0),
	}
}

func TestP7_4Play(t *testing.T) {
	housed := api.Berth{Ship: api.ShipHoused, Axis: 1, Held: 8, Open: true}
	bad := badWinds()[0]
	storm := wind(only(2000), only(0))
	changed := func(i int, s api.MastStep) []api.MastStep {
		l := housing()
		l[i] = s
		return l
	}
	for i, x := range []struct {
		steps    []api.MastStep
		want     api.Berth
		at, rule int
		e        api.Errno
	}{
		{nil, api.Berth{}, 0, 0, api.OK},
		{housing(), housed, 0, 0, api.OK},
		{housing()[:7], api.Berth{Ship: api.ShipWalking, Axis: 1, Held: 8, Open: true}, 0, 0, api.OK},
		{changed(7, in(storm, api.MastIn, 0)), api.Berth{Ship: api.ShipWalking, Axis: 1, Held: 8, Open: true}, 7, 2, api.ErrLock},
		{changed(7, in(storm, api.MastMoor, 0)), api.Berth{Ship: api.ShipMasted, Axis: 1, Held: 8, Open: true}, 0, 0, api.OK},
		{changed(6, in(storm, api.MastWalk, 0)), api.Berth{Ship: api.ShipMasted, Axis: 1, Held: 8, Open: true}, 6, 4, api.ErrLock},
		{changed(4, in(breeze(), api.MastTurn, 2)), api.Berth{Ship: api.ShipMasted, Axis: 2, Held: 8, Open: true}, 6, 4, api.ErrLock},
		{changed(1, in(storm, api.MastLines, 12)), api.Berth{Ship: api.ShipHoused, Axis: 1, Held: 12, Open: true}, 0, 0, api.OK},
		{changed(3, in(breeze(), api.MastLetGo, 0)), api.Berth{Ship: api.ShipLined, Held: 8, Wire: true}, 3, 2, api.ErrLock},
		{changed(0, in(breeze(), api.MastLines, 8)), api.Berth{}, 0, 1, api.ErrLock},
		{changed(0, in(breeze(), 14, 0)), api.Berth{}, 0, 0, api.ErrArg},
		{changed(2, in(breeze(), 0, 0)), api.Berth{Ship: api.ShipLined, Held: 8}, 2, 0, api.ErrArg},
		// A wind that is none is the error of its step.
		{changed(0, in(bad, api.MastCome, 0)), api.Berth{}, 0, 0, api.ErrBlow},
		{changed(7, in(bad, 0, 0)), api.Berth{Ship: api.ShipWalking, Axis: 1, Held: 8, Open: true}, 7, 0, api.ErrBlow},
		{append(changed(3, in(breeze(), api.MastLetGo, 0)), in(bad, 0, 0)), api.Berth{Ship: api.ShipLined, Held: 8, Wire: true}, 3, 2, api.ErrLock},
	} {
		if c, at, rule, e := mast.Play(port(), api.Berth{}, x.steps); c != x.want || at != x.at || rule != x.rule || e != x.e {
			t.Error(i, c, at, rule, e, "want", x)
		}
	}
}

func TestP7_4PlayMany(t *testing.T) {
	doors := slices.Repeat([]api.MastStep{in(breeze(), api.MastOpen, 0), in(breeze(), api.MastShut, 0)}, 101)
	for _, n := range []int{199, 200} {
		if c, at, rule, e := mast.Play(port(), api.Berth{}, doors[:n]); c != (api.Berth{Open: n == 199}) || at != 0 || rule != 0 || e != api.OK {
			t.Error(n, c, at, rule, e)
		}
	}
	late := slices.Clone(doors[:200])
	late[199] = in(breeze(), api.MastOpen, 0)
	if c, at, rule, e := mast.Play(port(), api.Berth{}, late); c != (api.Berth{Open: true}) || at != 199 || rule != 1 || e != api.ErrLock {
		t.Error(c, at, rule, e)
	}
	bad := slices.Repeat([]api.MastStep{in(badWinds()[0], 0, 0)}, 201)
	for i, x := range []struct {
		p     api.Port
		b     api.Berth
		steps []api.MastStep
		want  api.Errno
	}{
		{api.Port{}, api.Berth{Ship: 6}, bad, api.ErrPort},
		{port(), api.Berth{Ship: 6}, bad, api.ErrBerth},
		{port(), api.Berth{Open: true}, bad, api.ErrMany},
		{port(), api.Berth{}, doors[:201], api.ErrMany},
		{port(), api.Berth{Open: true}, doors[:201], api.ErrMany},
	} {
		if c, at, rule, e := mast.Play(x.p, x.b, x.steps); c != (api.Berth{}) || at != 0 || rule != 0 || e != x.want {
			t.Error(i, c, at, rule, e)
		}
	}
}

// What Play does is what Do does, step by step.
func TestP7_4PlayAll(t *testing.T) {
	r := rand.New(rand.NewSource(74))
	for range 3000 {
		p := somePort(r)
		b := someBerth(r, p)
		steps := make([]api.MastStep, r.Intn(8))
		want, wantAt, wantRule, wantE := b, 0, 0, api.OK
		for i := range steps {
			steps[i] = api.MastStep{Act: someAct(r, p), Wind: someWind(r, 15)}
			for range 5 {
				// Most often one that can be done.
				if _, _, e := mast.Do(p, want, steps[i]); e != api.OK {
					steps[i].Act = someAct(r, p)
				}
			}
			if wantE != api.OK {
				continue
			}
			next, rule, e := mast.Do(p, want, steps[i])
			if e == api.OK {
				want = next
			} else {
				wantAt, wantRule, wantE = i, rule, e
			}
		}
		if c, at, rule, e := mast.Play(p, b, steps); c != want || at != wantAt || rule != wantRule || e != wantE {
			t.Fatal(p, b, steps, c, at, rule, e, "want", want, wantAt, wantRule, wantE)
		}
	}
}

// isKept reports whether an act that was done in a wind keeps the interlocks.
func isKept(p api.Port, w api.Wind, before, after api.Berth) bool {
	walks := before.Ship != api.ShipWalking && after.Ship == api.ShipWalking
	goesIn := before.Ship == api.ShipWalking && after.Ship == api.ShipHoused
	calm, _ := mast.Calm(w, p.Axes[after.Axis], p.Cross)
	switch {
	case mast.CheckBerth(p, after) != api.OK:
		return false
	case (walks || goesIn) && !(calm && before.Held > 0 && before.Open):
		return false
	case after.Ship == api.ShipWalking && !(after.Held > 0 && after.Open):
		return false
	case after.Wire && !(after.Ship == api.ShipLined && after.Held > 0):
		return false
	case before.Wire && after.Held == 0:
		return false
	}
	// The shed does not turn with open doors, nor around a ship that is walked.
	return before.Axis == after.Axis || !before.Open && before.Ship != api.ShipWalking
}

func TestP7_9(t *testing.T) {
	r := rand.New(rand.NewSource(79))
	for range 60 {
		p := somePort(r)
		for _, b := range allBerths(p) {
			w := someWind(r, 30)
			for _, a := range allActs(p) {
				c, rule, e := mast.Do(p, b, api.MastStep{Act: a, Wind: w})
				if e == api.OK && !isKept(p, w, b, c) || e != api.OK && c != (api.Berth{}) || (e == api.ErrLock) != (rule > 0) {
					t.Fatal(p, b, w, a, c, rule, e)
				}
			}
		}
	}
}

// Interlocks hold in long plays, too, also in those that are locked at some step.
func TestN7Interlocks(t *testing.T) {
	r := rand.New(rand.NewSource(80))
	seen := [6]int{}
	for range 300 {
		p := somePort(r)
		b := someBerth(r, p)
		for range 100 {
			s := api.MastStep{Act: someAct(r, p), Wind: someWind(r, 20)}
			c, _, rule, e := mast.Play(p, b, []api.MastStep{s})
			if e == api.OK && !isKept(p, s.Wind, b, c) || e != api.OK && (c != b || e != api.ErrLock || rule == 0) {
				t.Fatal(p, b, s, c, rule, e)
			}
			seen[c.Ship]++
			b = c
		}
	}
	if slices.Min(seen[:]) < 100 {
		t.Error(seen)
	}
}
