package mast_test

import (
	"math"
	"math/rand"
	"slices"
	"testing"

	"ballonet/api"
	"ballonet/mast"
)

// roomy returns a list with room behind it, in which there is something else.
func roomy[T any](l []T, behind T) []T {
	return append(slices.Clone(l), slices.Repeat([]T{behind}, 5)...)[:len(l)]
}

// watched returns a roomy list, and adds what checks that all of its memory is as it was.
func watched[T comparable](t *testing.T, checks *[]func(), l []T, behind T) []T {
	l = roomy(l, behind)
	before := slices.Clone(l[:cap(l)])
	*checks = append(*checks, func() {
		if !slices.Equal(l[:cap(l)], before) {
			t.Error("changed", before, "to", l[:cap(l)])
		}
	})
	return l
}

// R3: arguments are only read, also what is behind their lists.
func TestP1Untouched(t *testing.T) {
	r := rand.New(rand.NewSource(41))
	for range 300 {
		var checks []func()
		p := somePort(r)
		b, w := someBerth(r, p), someWind(r, 30)
		p.Axes = watched(t, &checks, p.Axes, axis(7, 7))
		p.Pulls = watched(t, &checks, p.Pulls, span(7, 6))
		steps := watched(t, &checks, []api.MastStep{{Act: someAct(r, p), Wind: w}, {Act: someAct(r, p), Wind: w}}, in(w, 77, 7))
		mast.Turn(p.Axes, 0, w, r.Intn(30))
		mast.Man(p.Pulls, 40, 5)
		mast.CheckPort(p)
		mast.CheckBerth(p, b)
		mast.Do(p, b, steps[0])
		mast.Play(p, b, steps)
		mast.Plan(p, b, w, uint8(r.Intn(6)))

		d := someTable(r)
		d.Vars = watched(t, &checks, d.Vars, span(7, 6))
		for i, row := range d.Rows {
			d.Rows[i].Conds = watched(t, &checks, row.Conds, span(7, 6))
		}
		rows := slices.Clone(d.Rows)
		d.Rows = roomy(d.Rows, api.Row{Action: 777})
		state := watched(t, &checks, states(d)[0], 7)
		mast.CheckRows(d)
		mast.Decide(d, state)
		mast.Gap(d)
		mast.Twice(d)
		for _, check := range checks {
			check()
		}
		all := d.Rows[:cap(d.Rows)]
		isSame := func(a, b api.Row) bool { return a.Action == b.Action && slices.Equal(a.Conds, b.Conds) }
		if !slices.EqualFunc(d.Rows, rows, isSame) || all[len(d.Rows)].Action != 777 || all[len(d.Rows)+4].Conds != nil {
			t.Fatal("changed", rows, "to", all)
		}
	}
}

// again checks that a result that is written over, with its room, is not in that of another call.
func again[T comparable](t *testing.T, name string, call func() []T, with T) {
	t.Helper()
	first := call()
	want := slices.Clone(first)
	for i := range first[:cap(first)] {
		first[:cap(first)][i] = with
	}
	if got := call(); !slices.Equal(got, want) || len(want) == 0 {
		t.Error(name, got, "want", want)
	}
}

// R3: results share no memory with arguments, nor with the results of other calls.
func TestP1NewMemory(t *testing.T) {
	p, pulls, d := port(), threePulls(), example()
	again(t, "Man", func() []int { l, _ := mast.Man(pulls, 10, 100); return l }, 7)
	again(t, "Plan", func() []api.MastAct { l, _ := mast.Plan(p, api.Berth{}, breeze(), api.ShipHoused); return l }, act(7, 7))
	again(t, "Gap", func() []int { l, _ := mast.Gap(d); return l }, 7)
	again(t, "Twice", func() []int { l, _, _, _ := mast.Twice(d); return l }, 7)
	if !slices.Equal(pulls, threePulls()) || !slices.Equal(p.Axes, threeAxes()) || !slices.Equal(d.Vars, example().Vars) || !slices.Equal(d.Rows[1].Conds, example().Rows[1].Conds) {
		t.Error("changed", p, pulls, d)
	}
}

// R4: lists that are nil and lists that are empty are the same.
func TestP1Empty(t *testing.T) {
	for _, pulls := range [][]api.Span{nil, {}, make([]api.Span, 0, 9)} {
		if l, e := mast.Man(pulls, 3, 1); len(l) > 0 || e != api.OK {
			t.Error(l, e)
		}
		p := port()
		p.Pulls = pulls
		for _, steps := range [][]api.MastStep{nil, {}, make([]api.MastStep, 0, 9)} {
			b := api.Berth{Ship: api.ShipMasted, Held: 1}
			if c, at, rule, e := mast.Play(p, b, steps); c != b || at != 0 || rule != 0 || e != api.OK {
				t.Error(c, at, rule, e)
			}
		}
		if e := mast.CheckRows(table(pulls)); e != api.ErrRows {
			t.Error(e)
		}
		if e := mast.CheckRows(table(vars(only(0)), api.Row{Conds: pulls})); e != api.ErrRows {
			t.Error(e)
		}
	}
	for _, axes := range [][]api.Axis{nil, {}, make([]api.Axis, 0, 9)} {
		p := port()
		p.Axes = axes
		if _, _, e := mast.Turn(axes, 0, breeze(), 5); e != api.ErrPort || mast.CheckPort(p) != api.ErrPort {
			t.Error(e)
		}
	}
	for _, rows := range [][]api.Row{nil, {}, make([]api.Row, 0, 9)} {
		d := table(vars(only(5)), rows...)
		if state, e := mast.Gap(d); !slices.Equal(state, []int{5}) || e != api.OK {
			t.Error(state, e)
		}
	}
	for _, state := range [][]int{nil, {}, make([]int, 0, 9)} {
		if row, e := mast.Decide(example(), state); row != 0 || e != api.ErrArg {
			t.Error(row, e)
		}
	}
}

// wild returns any number, most often one at which something overflows or ends.
func wild(r *rand.Rand) int {
	base := []int{0, 0, 1, 5, 9, 99, 200, 1000, 2000, api.MaxPull, 1 << 31, 1 << 32, 1 << 62, math.MaxInt, math.MinInt}
	n := base[r.Intn(len(base))] + r.Intn(3) - 1
	if r.Intn(2) == 0 {
		return -n
	}
	return n
}

// wildOne puts something wild into one of some numbers, now and then.
func wildOne(r *rand.Rand, n ...*int) {
	if r.Intn(8) == 0 {
		*n[r.Intn(len(n))] = wild(r)
	}
}

// wildLength makes a list much longer, now and then.
func wildLength[T any](r *rand.Rand, l []T) []T {
	if len(l) == 0 || r.Intn(20) > 0 {
		return l
	}
	return slices.Repeat(l, 1+r.Intn(60))
}

func wildWind(r *rand.Rand) api.Wind {
	w := someWind(r, 40)
	wildOne(r, &w.X.Lo, &w.X.Hi, &w.Y.Lo, &w.Y.Hi)
	return w
}

func wildPort(r *rand.Rand) api.Port {
	p := somePort(r)
	wildOne(r, &p.Axes[0].X, &p.Axes[0].Y, &p.People, &p.Most, &p.Cross)
	if len(p.Pulls) > 0 {
		wildOne(r, &p.Pulls[0].Lo, &p.Pulls[0].Hi)
	}
	p.Axes, p.Pulls = wildLength(r, p.Axes), wildLength(r, p.Pulls)
	return p
}

func wildTable(r *rand.Rand) api.Decisions {
	d := someTable(r)
	wildOne(r, &d.Vars[0].Lo, &d.Vars[0].Hi)
	if len(d.Rows) > 0 {
		row := &d.Rows[r.Intn(len(d.Rows))]
		wildOne(r, &row.Conds[0].Lo, &row.Conds[0].Hi, &row.Action)
		row.Conds = wildLength(r, row.Conds)
	}
	d.Vars, d.Rows = wildLength(r, d.Vars), wildLength(r, d.Rows)
	return d
}

// checker notes what is not as it has to be: what is returned is valid, and nothing is beside an error.
type checker struct {
	t   *testing.T
	oks map[string]int
}

func (c checker) check(name string, e api.Errno, valid, zero bool) {
	c.t.Helper()
	if e == api.OK {
		c.oks[name]++
	}
	if e == api.OK && !valid || e != api.OK && !zero {
		c.t.Error(name, e, valid, zero)
	}
}

// R2, R5, R6 and R7: whatever the arguments are, every call ends without a panic; what it returns is valid; and nothing is beside an error.
func TestP1Wild(t *testing.T) {
	r := rand.New(rand.NewSource(42))
	k := checker{t, map[string]int{}}
	for range 6000 {
		w, a, most := wildWind(r), someAxis(r, 9), r.Intn(40)
		wildOne(r, &a.X, &a.Y, &most)
		s, e := mast.Cross(w, a)
		k.check("Cross", e, 0 <= s.Lo && s.Lo <= s.Hi && s.Hi <= 2829, s == only(0))
		is, e := mast.Calm(w, a, most)
		k.check("Calm", e, mast.CheckAxis(a) == api.OK, !is)
		k.wildPorts(r, w, most)

		d := wildTable(r)
		state := make([]int, len(d.Vars))
		for i, v := range d.Vars {
			state[i] = v.Lo
			wildOne(r, &state[i])
		}
		row, e := mast.Decide(d, state)
		k.check("Decide", e, 0 <= row && row < len(d.Rows), row == 0)
		state, e = mast.Gap(d)
		k.check("Gap", e, len(state) == len(d.Vars), len(state) == 0)
		state, one, two, e := mast.Twice(d)
		k.check("Twice", e, len(state) == len(d.Vars) && 0 <= one && one < two && two < len(d.Rows), len(state) == 0 && one == 0 && two == 0)
	}
	for _, name := range []string{"Cross", "Calm", "Turn", "Man", "Do", "Play", "Plan", "Decide", "Gap", "Twice"} {
		if k.oks[name] < 100 {
			t.Error("hardly anything is valid:", k.oks)
		}
	}
}

// wildPorts goes on with ports, berths and plans.
func (k checker) wildPorts(r *rand.Rand, w api.Wind, most int) {
	p := wildPort(r)
	at, people := r.Intn(4), r.Intn(9)
	wildOne(r, &at, &people)
	to, steps, e := mast.Turn(p.Axes, at, w, most)
	k.check("Turn", e, 0 <= to && to < len(p.Axes) && 0 <= steps && steps <= len(p.Axes)/2, to == 0 && steps == 0)
	held, e := mast.Man(p.Pulls, people, p.Most)
	k.check("Man", e, len(held) == len(p.Pulls), len(held) == 0)

	b := api.Berth{Ship: uint8(r.Intn(7)), Axis: r.Intn(len(p.Axes)), Held: r.Intn(4), Wire: r.Intn(4) == 0, Open: r.Intn(2) == 0}
	if mast.CheckPort(p) == api.OK && p.People < 9 && r.Intn(2) == 0 {
		b = someBerth(r, p)
	}
	wildOne(r, &b.Axis, &b.Held)
	s := api.MastStep{Act: act(uint8(r.Intn(16)), r.Intn(9)), Wind: w}
	wildOne(r, &s.Act.N)
	c, rule, e := mast.Do(p, b, s)
	k.check("Do", e, mast.CheckBerth(p, c) == api.OK && rule == 0, c == api.Berth{})
	if (rule > 0) != (e == api.ErrLock) {
		k.t.Error("Do", rule, e)
	}
	l := wildLength(r, []api.MastStep{{Act: act(api.MastOpen, wild(r)), Wind: wildWind(r)}, {Act: act(api.MastShut, 0)}, s}[:r.Intn(4)])
	c, at, rule, e = mast.Play(p, b, l)
	before := mast.CheckBerth(p, c) == api.OK && at < len(l) && (rule > 0) == (e == api.ErrLock)
	k.check("Play", e, mast.CheckBerth(p, c) == api.OK && at == 0 && rule == 0, c == (api.Berth{}) && at == 0 && rule == 0 || before)
	plan, e := mast.Plan(p, b, w, uint8(r.Intn(8)))
	k.check("Plan", e, len(plan) < 20, len(plan) == 0)
}

// R5: numbers of any size lead to the error that is named for them, also beside others that would make up for them.
func TestP1Sizes(t *testing.T) {
	huge := []api.Span{only(math.MaxInt), only(math.MaxInt), only(2)}
	if l, e := mast.Man(huge, 200, 1); len(l) > 0 || e != api.ErrArg {
		t.Error(l, e)
	}
	p := port()
	p.Pulls = huge
	if e := mast.CheckBerth(p, api.Berth{}); e != api.ErrPort {
		t.Error(e)
	}
	if s, e := mast.Cross(wind(only(math.MinInt), only(math.MinInt)), axis(1, 1)); s != only(0) || e != api.ErrBlow {
		t.Error(s, e)
	}
	if s, e := mast.Cross(breeze(), axis(math.MinInt, math.MinInt)); s != only(0) || e != api.ErrAxis {
		t.Error(s, e)
	}
	long := make([]api.Axis, 100000)
	if _, _, e := mast.Turn(long, 0, breeze(), 5); e != api.ErrPort {
		t.Error(e)
	}
	if _, e := mast.Decide(example(), make([]int, 100000)); e != api.ErrArg {
		t.Error(e)
	}
}
