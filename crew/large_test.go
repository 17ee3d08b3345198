package crew_test

import (
	"math/rand"
	"slices"
	"testing"

	"ballonet/api"
	"ballonet/crew"
)

// What N8 says, for rosters, plans and offices as large as they may be.

// mostIn returns the most minutes on duty of a person in any window: it has to be one that begins, or ends, where a shift does.
func mostIn(l []api.Shift, who, window int) int {
	most := 0
	for _, edge := range l {
		for _, from := range []int{edge.From, edge.From - window, edge.To, edge.To - window} {
			sum := 0
			for _, s := range l {
				if s.Who == who {
					sum += max(0, min(s.To, from+window)-max(s.From, from))
				}
			}
			most = max(most, sum)
		}
	}
	return most
}

// longRoster returns a roster with many long shifts.
func longRoster(r *rand.Rand) []api.Shift {
	var ends [api.MaxMembers]int
	var l []api.Shift
	for len(l) < api.MaxShifts {
		who := r.Intn(len(ends))
		from := ends[who] + r.Intn(1000)
		ends[who] = from + 1 + r.Intn(700)
		l = append(l, shift(who, from, ends[who]))
	}
	r.Shuffle(len(l), func(i, k int) { l[i], l[k] = l[k], l[i] })
	return l
}

func TestN8Duty(t *testing.T) {
	r := rand.New(rand.NewSource(51))
	tiredPeople := 0
	for range 300 {
		l := longRoster(r)
		d := api.Duty{Most: 500 + r.Intn(300), Rest: r.Intn(100), Window: 1000 + r.Intn(3000)}
		d.Sum = d.Window/3 + r.Intn(d.Window/2)
		cases, e := crew.Tired(d, l)
		if e != api.OK {
			t.Fatal(l, e)
		}
		for who := range api.MaxMembers {
			isNamed := slices.ContainsFunc(cases, func(c api.Tired) bool { return c.Kind == api.TiredSum && c.Who == who })
			if isNamed != (mostIn(l, who, d.Window) > d.Sum) {
				t.Error(d, l, cases, who)
			}
			if isNamed {
				tiredPeople++
			}
		}
	}
	if tiredPeople < 300 || tiredPeople > 1500 {
		t.Error(tiredPeople)
	}
}

// fewest returns the fewest inspections with which no flight is late, and the most that they leave: by how many there were up to a flight it keeps how late the next one may be due.
func fewest(c api.Care, flights []int) (inspections, left int) {
	due, flown := map[int]int{0: c.Due}, 0
	for _, minutes := range flights {
		next := map[int]int{}
		for n, at := range due {
			for k, at := range map[int]int{n: at, n + 1: min(flown, at) + c.Every} {
				if old, isOld := next[k]; flown+minutes <= at+c.Grace && (!isOld || at > old) {
					next[k] = at
				}
			}
		}
		due = next
		flown += minutes
	}
	for n := range len(flights) + 1 {
		if at, isOne := due[n]; isOne {
			return n, at - flown
		}
	}
	return -1, 0
}

func TestN8Care(t *testing.T) {
	r := rand.New(rand.NewSource(52))
	planned, none := 0, 0
	for range 1500 {
		c := api.Care{Every: 200 + r.Intn(2000), Grace: r.Intn(1500)}
		c.Due = r.Intn(c.Grace+c.Every) - c.Grace
		l := make([]int, 30+r.Intn(31))
		for i := range l {
			l[i] = 1 + r.Intn(700)
		}
		n, left := fewest(c, l)
		plan, e := crew.Inspect(c, l)
		if n < 0 {
			none++
			if len(plan) > 0 || e != api.ErrNone {
				t.Error(c, l, plan, e)
			}
			continue
		}
		planned++
		if got, at, lateE := crew.Late(c, l, plan); len(plan) != n || e != api.OK || got != left || at != 0 || lateE != api.OK {
			t.Error(c, l, plan, e, got, lateE, n, left)
		}
	}
	if planned < 300 || none < 100 {
		t.Error(planned, none)
	}
}

// An office that sells all that it may, for as long as it may, keeps its money and its seats.
func TestN8Office(t *testing.T) {
	r := rand.New(rand.NewSource(53))
	most := 0
	for range 30 {
		o := api.Office{Notice: r.Intn(100), Fee: r.Intn(101)}
		for range api.MaxOpen {
			o = played(t, o, open(r.Intn(9), r.Intn(api.MaxPrice+1), r.Intn(100)))
		}
		for range 1000 {
			d := someDeal(r, o)
			if (d.Kind == api.DealOff || d.Kind == api.DealLeave || d.Kind == api.DealCancel) && r.Intn(10) > 0 {
				continue
			}
			want, wantE := byTable(o, d)
			p, e := crew.Do(o, d)
			if !isSame(p, want) || e != wantE {
				t.Fatal(o, d, p, e)
			}
			if e != api.OK {
				continue
			}
			held, earned, kept, back, e := crew.Purse(p)
			if e != api.OK || !isOffice(p) || p.In != held+earned+kept+back {
				t.Fatal(o, d, p, held, earned, kept, back, e)
			}
			o = p
		}
		most = max(most, len(o.Books))
	}
	if most != api.MaxBooked {
		t.Error(most)
	}
}
