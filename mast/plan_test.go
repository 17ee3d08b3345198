package mast_test

import (
	"math"
	"math/rand"
	"slices"
	"testing"

	"ballonet/api"
	"ballonet/mast"
)

// planned is a berth, a wind and where the ship is to be, and the plan for it.
type planned struct {
	b    api.Berth
	w    api.Wind
	ship uint8
	want []api.MastAct
	e    api.Errno
}

func checkPlans(t *testing.T, l []planned) {
	t.Helper()
	for i, x := range l {
		if l, e := mast.Plan(port(), x.b, x.w, x.ship); !slices.Equal(l, x.want) || e != x.e {
			t.Error(i, l, e, "want", x.want)
		}
	}
}

// storm returns a wind that is calm for no axis.
func storm() api.Wind { return wind(span(-2000, 2000), span(-2000, 2000)) }

func TestP7_5Plan(t *testing.T) {
	checkPlans(t, []planned{
		{api.Berth{}, breeze(), api.ShipHoused, housingActs(), api.OK},
		{api.Berth{}, breeze(), api.ShipAway, nil, api.OK},
		{api.Berth{}, breeze(), api.ShipOver, housingActs()[:1], api.OK},
		{api.Berth{}, breeze(), api.ShipLined, housingActs()[:2], api.OK},
		{api.Berth{}, storm(), api.ShipMasted, housingActs()[:4], api.OK},
		{api.Berth{}, breeze(), api.ShipWalking, housingActs()[:7], api.OK},
		{api.Berth{}, storm(), api.ShipWalking, nil, api.ErrNone},
		{api.Berth{}, storm(), api.ShipHoused, nil, api.ErrNone},
		{api.Berth{Open: true}, wind(only(0), only(0)), api.ShipHoused, slices.Delete(housingActs(), 4, 6), api.OK},
		// The shed has to be shut, and opened again.
		{api.Berth{Open: true}, breeze(), api.ShipHoused, slices.Insert(housingActs(), 4, act(api.MastShut, 0)), api.OK},
		// Of acts that may be done in any order the first one is done first.
		{api.Berth{Ship: api.ShipMasted}, breeze(), api.ShipHoused, []api.MastAct{
			act(api.MastLines, 8), act(api.MastTurn, 1), act(api.MastOpen, 0), act(api.MastWalk, 0), act(api.MastIn, 0),
		}, api.OK},
		{api.Berth{Ship: api.ShipMasted, Axis: 2, Held: 12}, breeze(), api.ShipHoused, []api.MastAct{
			act(api.MastTurn, 1), act(api.MastOpen, 0), act(api.MastWalk, 0), act(api.MastIn, 0),
		}, api.OK},
		// The shed stays where it is calm; of two other axes that are calm it is the first one.
		{api.Berth{Ship: api.ShipMasted, Axis: 2, Held: 9}, wind(only(0), only(10)), api.ShipWalking, []api.MastAct{
			act(api.MastOpen, 0), act(api.MastWalk, 0),
		}, api.OK},
		{api.Berth{Ship: api.ShipMasted, Axis: 2, Held: 9}, wind(only(26), only(10)), api.ShipWalking, []api.MastAct{
			act(api.MastTurn, 0), act(api.MastOpen, 0), act(api.MastWalk, 0),
		}, api.OK},
	})
}

func TestP7_5PlanBack(t *testing.T) {
	checkPlans(t, []planned{
		// From the shed to the sky.
		{api.Berth{Ship: api.ShipHoused, Axis: 1}, breeze(), api.ShipAway, []api.MastAct{
			act(api.MastLines, 8), act(api.MastOpen, 0), act(api.MastOut, 0), act(api.MastMoor, 0), act(api.MastLetGo, 0), act(api.MastCast, 0),
		}, api.OK},
		{api.Berth{Ship: api.ShipHoused, Axis: 1, Held: 8}, breeze(), api.ShipOver, []api.MastAct{
			act(api.MastOpen, 0), act(api.MastOut, 0), act(api.MastMoor, 0), act(api.MastLetGo, 0), act(api.MastCast, 0), act(api.MastCome, 0),
		}, api.OK},
		{api.Berth{Ship: api.ShipHoused}, breeze(), api.ShipMasted, []api.MastAct{
			act(api.MastLines, 8), act(api.MastTurn, 1), act(api.MastOpen, 0), act(api.MastOut, 0), act(api.MastMoor, 0),
		}, api.OK},
		{api.Berth{Ship: api.ShipHoused}, storm(), api.ShipHoused, nil, api.OK},
		{api.Berth{Ship: api.ShipHoused}, storm(), api.ShipMasted, nil, api.ErrNone},
		// In a wind that is not calm a ship that is walked can only be moored.
		{api.Berth{Ship: api.ShipWalking, Held: 8, Open: true}, breeze(), api.ShipMasted, []api.MastAct{act(api.MastMoor, 0)}, api.OK},
		{api.Berth{Ship: api.ShipWalking, Held: 8, Open: true}, breeze(), api.ShipHoused, []api.MastAct{
			act(api.MastMoor, 0), act(api.MastShut, 0), act(api.MastTurn, 1), act(api.MastOpen, 0), act(api.MastWalk, 0), act(api.MastIn, 0),
		}, api.OK},
		{api.Berth{Ship: api.ShipWalking, Held: 8, Open: true}, storm(), api.ShipHoused, nil, api.ErrNone},
		{api.Berth{Ship: api.ShipWalking, Held: 8, Open: true}, storm(), api.ShipLined, []api.MastAct{
			act(api.MastMoor, 0), act(api.MastLetGo, 0), act(api.MastCast, 0), act(api.MastCome, 0), act(api.MastLines, 8),
		}, api.OK},
		// A ship on its wire is coupled first.
		{api.Berth{Ship: api.ShipLined, Held: 8, Wire: true}, breeze(), api.ShipOver, []api.MastAct{
			act(api.MastCouple, 0), act(api.MastLetGo, 0), act(api.MastCast, 0), act(api.MastCome, 0),
		}, api.OK},
		{api.Berth{Ship: api.ShipLined, Held: 8}, breeze(), api.ShipOver, []api.MastAct{act(api.MastLetGo, 0)}, api.OK},
		{api.Berth{Ship: api.ShipLined, Held: 8}, breeze(), api.ShipAway, []api.MastAct{
			act(api.MastWire, 0), act(api.MastCouple, 0), act(api.MastLetGo, 0), act(api.MastCast, 0),
		}, api.OK},
	})
}

func TestP7_5Errors(t *testing.T) {
	bad := badWinds()[0]
	for i, p := range badPorts() {
		if l, e := mast.Plan(p, api.Berth{Ship: 6}, bad, 6); len(l) > 0 || e != api.ErrPort {
			t.Error(i, l, e)
		}
	}
	few := port()
	few.People = 7
	for i, x := range []struct {
		p    api.Port
		b    api.Berth
		w    api.Wind
		ship uint8
		want api.Errno
	}{
		{port(), api.Berth{Ship: 6}, bad, 6, api.ErrBerth},
		{port(), api.Berth{Ship: 6}, breeze(), 6, api.ErrBerth},
		{port(), api.Berth{Held: 8}, breeze(), 0, api.ErrBerth},
		{port(), api.Berth{}, bad, 6, api.ErrBlow},
		{port(), api.Berth{}, bad, 0, api.ErrBlow},
		{port(), api.Berth{}, breeze(), 6, api.ErrArg},
		{port(), api.Berth{}, breeze(), 255, api.ErrArg},
		// There are too few people to hold the lines.
		{few, api.Berth{}, breeze(), api.ShipLined, api.ErrNone},
		{few, api.Berth{}, breeze(), api.ShipMasted, api.ErrNone},
		{few, api.Berth{Ship: api.ShipMasted, Open: true}, wind(only(0), only(0)), api.ShipWalking, api.ErrNone},
	} {
		if l, e := mast.Plan(x.p, x.b, x.w, x.ship); len(l) > 0 || e != x.want {
			t.Error(i, l, e)
		}
	}
	if l, e := mast.Plan(few, api.Berth{Ship: api.ShipMasted}, breeze(), api.ShipAway); !slices.Equal(l, []api.MastAct{act(api.MastCast, 0)}) || e != api.OK {
		t.Error(l, e)
	}
}

// chances is what acts can be done at the berths of a port, in a wind, with all numbers, in order; and where each of them leads.
type chances map[api.Berth][]chance

type chance struct {
	act api.MastAct
	end api.Berth
}

func chancesOf(p api.Port, w api.Wind) chances {
	all := chances{}
	for _, b := range allBerths(p) {
		for _, a := range allActs(p) {
			if a.Kind != api.MastLines && a.Kind != api.MastTurn && a.N != 0 {
				continue
			}
			if end, _, e := mast.Do(p, b, api.MastStep{Act: a, Wind: w}); e == api.OK {
				all[b] = append(all[b], chance{a, end})
			}
		}
	}
	return all
}

// never is more acts than any plan has.
const never = math.MaxInt - 1

// far returns for each berth how many acts it takes at least to get the ship to where it is to be.
func (all chances) far(berths []api.Berth, ship uint8) map[api.Berth]int {
	far := map[api.Berth]int{}
	for _, b := range berths {
		far[b] = never
		if b.Ship == ship {
			far[b] = 0
		}
	}
	for changed := true; changed; {
		changed = false
		for _, b := range berths {
			for _, c := range all[b] {
				if n := far[c.end]; n != never && n+1 < far[b] {
					far[b], changed = n+1, true
				}
			}
		}
	}
	return far
}

// plan returns the first of the shortest plans: of all acts that lead nearer it takes the first one.
func (all chances) plan(b api.Berth, far map[api.Berth]int) []api.MastAct {
	var l []api.MastAct
	for far[b] > 0 {
		i := slices.IndexFunc(all[b], func(c chance) bool { return far[c.end] == far[b]-1 })
		l = append(l, all[b][i].act)
		b = all[b][i].end
	}
	return l
}

func TestP7_10(t *testing.T) {
	r := rand.New(rand.NewSource(710))
	plans, nones := 0, 0
	for range 40 {
		p, w := somePort(r), someWind(r, 12)
		berths, all := allBerths(p), chancesOf(p, w)
		for ship := range uint8(6) {
			far := all.far(berths, ship)
			for _, b := range berths {
				l, e := mast.Plan(p, b, w, ship)
				if far[b] == never {
					nones++
					if len(l) > 0 || e != api.ErrNone {
						t.Fatal(p, b, w, ship, l, e)
					}
					continue
				}
				plans++
				if e != api.OK || !slices.Equal(l, all.plan(b, far)) {
					t.Fatal(p, b, w, ship, l, e, "want", all.plan(b, far))
				}
				if !leads(p, b, w, l, ship) {
					t.Fatal(p, b, w, ship, l)
				}
			}
		}
	}
	if plans < 2000 || nones < 1000 {
		t.Error(plans, nones)
	}
}

// leads reports whether a plan can be done, and ends with the ship where it was to be, but nowhere before.
func leads(p api.Port, b api.Berth, w api.Wind, acts []api.MastAct, ship uint8) bool {
	var steps []api.MastStep
	for _, a := range acts {
		if b, _, _, _ := mast.Play(p, b, steps); b.Ship == ship {
			return false
		}
		steps = append(steps, api.MastStep{Act: a, Wind: w})
	}
	c, at, rule, e := mast.Play(p, b, steps)
	return e == api.OK && at == 0 && rule == 0 && c.Ship == ship
}

// The largest port has a plan, and finds that there is none.
func TestP7_10Largest(t *testing.T) {
	p := api.Port{Axes: slices.Repeat([]api.Axis{axis(1000, 0)}, 32), People: 200, Most: 1000000, Pulls: slices.Repeat([]api.Span{span(0, 1000000)}, 8), Cross: 2000}
	w := wind(only(0), only(2000))
	l, e := mast.Plan(p, api.Berth{Axis: 5}, w, api.ShipHoused)
	want := []api.MastAct{
		act(api.MastCome, 0), act(api.MastLines, 8), act(api.MastWire, 0), act(api.MastCouple, 0), act(api.MastOpen, 0), act(api.MastWalk, 0), act(api.MastIn, 0),
	}
	if e != api.OK || !slices.Equal(l, want) {
		t.Error(l, e)
	}
	p.Cross, p.Pulls = 1999, nil
	if l, e := mast.Plan(p, api.Berth{Ship: api.ShipMasted, Held: 150}, w, api.ShipHoused); e != api.ErrNone || len(l) > 0 {
		t.Error(l, e)
	}
	p.Axes[31] = axis(0, -1)
	want = []api.MastAct{act(api.MastTurn, 31), act(api.MastOpen, 0), act(api.MastWalk, 0), act(api.MastIn, 0)}
	if l, e := mast.Plan(p, api.Berth{Ship: api.ShipMasted, Held: 150}, w, api.ShipHoused); e != api.OK || !slices.Equal(l, want) {
		t.Error(l, e)
	}
}
