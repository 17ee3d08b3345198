package crew_test

import (
	"cmp"
	"math"
	"math/rand"
	"slices"
	"testing"

	"ballonet/api"
	"ballonet/crew"
)

func TestP8_1CheckDuty(t *testing.T) {
	for i, x := range []struct {
		d    api.Duty
		want api.Errno
	}{
		{limits(), api.OK},
		{api.Duty{Most: 1, Window: 1}, api.OK},
		{api.Duty{Most: 1, Window: 1, Sum: 1}, api.OK},
		{api.Duty{Most: 100000, Rest: 100000, Window: 100000, Sum: 100000}, api.OK},
		{api.Duty{}, api.ErrDuty},
		{api.Duty{Most: 0, Window: 1}, api.ErrDuty},
		{api.Duty{Most: 100001, Window: 1}, api.ErrDuty},
		{api.Duty{Most: 1, Rest: -1, Window: 1}, api.ErrDuty},
		{api.Duty{Most: 1, Rest: 100001, Window: 1}, api.ErrDuty},
		{api.Duty{Most: 1, Window: 0}, api.ErrDuty},
		{api.Duty{Most: 1, Window: 100001}, api.ErrDuty},
		{api.Duty{Most: 1, Window: 1, Sum: -1}, api.ErrDuty},
		{api.Duty{Most: 1, Window: 1, Sum: 2}, api.ErrDuty},
		{api.Duty{Most: math.MaxInt, Rest: math.MinInt, Window: math.MaxInt, Sum: math.MaxInt}, api.ErrDuty},
	} {
		if e := crew.CheckDuty(x.d); e != x.want {
			t.Error(i, e)
		}
	}
}

// many returns so many shifts of one person, each of which begins when the one before it ends.
func many(n int) []api.Shift {
	l := make([]api.Shift, n)
	for i := range l {
		l[i] = shift(0, i, i+1)
	}
	return l
}

func TestP8_1CheckRoster(t *testing.T) {
	for i, x := range []struct {
		l    []api.Shift
		want api.Errno
	}{
		{roster(), api.OK},
		{nil, api.OK},
		{many(40), api.OK},
		{many(41), api.ErrMany},
		{append(many(40), shift(-1, 5, 5)), api.ErrMany},
		{[]api.Shift{shift(0, 0, api.MaxTime)}, api.OK},
		{[]api.Shift{shift(5, 999999, 1000000)}, api.OK},
		{[]api.Shift{shift(6, 0, 1)}, api.ErrRoster},
		{[]api.Shift{shift(-1, 0, 1)}, api.ErrRoster},
		{[]api.Shift{shift(0, -1, 1)}, api.ErrRoster},
		{[]api.Shift{shift(0, 1, 1)}, api.ErrRoster},
		{[]api.Shift{shift(0, 2, 1)}, api.ErrRoster},
		{[]api.Shift{shift(0, 0, 1000001)}, api.ErrRoster},
		{[]api.Shift{shift(0, math.MinInt, math.MaxInt)}, api.ErrRoster},
		{[]api.Shift{shift(2, 5, 9), shift(2, 2, 5), shift(2, 9, 10)}, api.OK},
		{[]api.Shift{shift(2, 5, 9), shift(2, 2, 6)}, api.ErrRoster},
		{[]api.Shift{shift(2, 5, 9), shift(3, 2, 6)}, api.OK},
		{[]api.Shift{shift(2, 5, 9), shift(2, 6, 7)}, api.ErrRoster},
		{[]api.Shift{shift(2, 5, 9), shift(2, 5, 6)}, api.ErrRoster},
		{[]api.Shift{shift(2, 5, 9), shift(2, 5, 9)}, api.ErrRoster},
		{[]api.Shift{shift(2, 5, 9), shift(1, 5, 9), shift(0, 5, 9)}, api.OK},
		{[]api.Shift{shift(2, 5, 9), shift(1, 5, 9), shift(2, 8, 12)}, api.ErrRoster},
		{append(roster(), shift(0, 1499, 2100)), api.ErrRoster},
		{append(roster(), shift(0, 1500, 2101)), api.ErrRoster},
		{append(roster(), shift(0, 1500, 2100)), api.OK},
	} {
		if e := crew.CheckRoster(x.l); e != x.want {
			t.Error(i, e)
		}
	}
}

// isRoster says whether shifts are a roster: any two of one person are compared.
func isRoster(l []api.Shift) bool {
	for i, s := range l {
		if s.Who < 0 || s.Who > 5 || s.From < 0 || s.From >= s.To || s.To > 1000000 {
			return false
		}
		for k, o := range l {
			if i != k && s.Who == o.Who && s.To > o.From && o.To > s.From {
				return false
			}
		}
	}
	return true
}

func TestP8_1CheckRosterAll(t *testing.T) {
	r := rand.New(rand.NewSource(1))
	oks := 0
	for range 4000 {
		l := someShifts(r, 5)
		if len(l) > 0 && r.Intn(5) == 0 {
			s := &l[r.Intn(len(l))]
			n := []*int{&s.Who, &s.From, &s.To}[r.Intn(3)]
			*n = []int{-1, 0, 5, 6, 1000000, 1000001}[r.Intn(6)]
		}
		if is := crew.CheckRoster(l) == api.OK; is != isRoster(l) {
			t.Error(l, is)
		} else if is {
			oks++
		}
	}
	if oks < 1000 || oks > 3000 {
		t.Error(oks)
	}
}

func TestP8_1Tired(t *testing.T) {
	d := limits()
	for i, x := range []struct {
		d    api.Duty
		l    []api.Shift
		want []api.Tired
	}{
		{d, roster(), []api.Tired{tired(3, 0, 0), tired(2, 0, 1000)}},
		{d, []api.Shift{roster()[2], roster()[0], roster()[1]}, []api.Tired{tired(3, 0, 0), tired(2, 0, 1000)}},
		{d, nil, nil},
		// The longest shift is as long as it may be, or longer.
		{d, []api.Shift{shift(1, 100, 700)}, nil},
		{d, []api.Shift{shift(1, 100, 701)}, []api.Tired{tired(1, 1, 100)}},
		// The rest is as short as it may be, or shorter; also after another person's shift.
		{d, []api.Shift{shift(1, 0, 100), shift(1, 600, 700)}, nil},
		{d, []api.Shift{shift(1, 0, 100), shift(1, 599, 700)}, []api.Tired{tired(2, 1, 599)}},
		{d, []api.Shift{shift(1, 0, 100), shift(2, 100, 200), shift(3, 200, 300)}, nil},
		{d, []api.Shift{shift(1, 0, 100), shift(1, 100, 200)}, []api.Tired{tired(2, 1, 100)}},
		// In the window it is as much as may be, or more.
		{d, []api.Shift{shift(4, 0, 500), shift(4, 1500, 2600)}, []api.Tired{tired(1, 4, 1500), tired(3, 4, 1500)}},
		{d, []api.Shift{shift(4, 0, 500), shift(4, 1500, 2100)}, nil},
		{d, []api.Shift{shift(4, 0, 501), shift(4, 1500, 2100)}, []api.Tired{tired(3, 4, 0)}},
		{d, []api.Shift{shift(4, 0, 501), shift(4, 1501, 2100)}, nil},
		{d, []api.Shift{shift(4, 0, 600), shift(4, 1100, 1500), shift(4, 2000, 2600)}, nil},
		{d, []api.Shift{shift(4, 0, 500), shift(4, 1000, 1401), shift(4, 2000, 2600)}, []api.Tired{tired(3, 4, 1000)}},
		{d, []api.Shift{shift(4, 1, 601), shift(4, 1101, 1501), shift(4, 2000, 2600)}, []api.Tired{tired(3, 4, 1), tired(2, 4, 2000)}},
		// What others do does not tire.
		{d, []api.Shift{shift(4, 0, 600), shift(5, 600, 1200), shift(4, 1300, 1700)}, nil},
		// All kinds at once, and persons in order.
		{api.Duty{Most: 1, Rest: 1, Window: 1}, []api.Shift{shift(3, 2, 4), shift(3, 0, 2), shift(1, 5, 6)}, []api.Tired{tired(3, 1, 5), tired(1, 3, 0), tired(3, 3, 0), tired(1, 3, 2), tired(2, 3, 2), tired(3, 3, 2)}},
		{free(), many(40), nil},
		{free(), []api.Shift{shift(0, 0, 100001)}, []api.Tired{tired(1, 0, 0)}},
		{api.Duty{Most: 1, Window: 1, Sum: 1}, many(40), nil},
	} {
		if got, e := crew.Tired(x.d, x.l); !slices.Equal(got, x.want) || e != api.OK {
			t.Error(i, got, e)
		}
	}
}

func TestP8_1TiredErrors(t *testing.T) {
	for i, x := range []struct {
		d    api.Duty
		l    []api.Shift
		want api.Errno
	}{
		{api.Duty{}, many(41), api.ErrDuty},
		{limits(), append(many(40), shift(9, 0, 0)), api.ErrMany},
		{limits(), []api.Shift{shift(0, 0, 700), shift(0, 0, 700)}, api.ErrRoster},
	} {
		if got, e := crew.Tired(x.d, x.l); len(got) > 0 || e != x.want {
			t.Error(i, got, e)
		}
	}
}

// minutesOn returns how many minutes from one on, of some number, a person is on duty: they are asked one by one.
func minutesOn(l []api.Shift, who, from, minutes int) int {
	n := 0
	for at := from; at < from+minutes; at++ {
		for _, s := range l {
			if s.Who == who && s.From <= at && at < s.To {
				n++
			}
		}
	}
	return n
}

// allTired returns all cases by the chapter's table, put in order at the end.
func allTired(d api.Duty, l []api.Shift) []api.Tired {
	var cases []api.Tired
	for _, s := range l {
		if s.To-s.From > d.Most {
			cases = append(cases, tired(api.TiredLong, s.Who, s.From))
		}
		isNext := false
		before := math.MinInt
		for _, o := range l {
			if o.Who == s.Who && o.To <= s.From {
				isNext, before = true, max(before, o.To)
			}
		}
		if isNext && s.From-before < d.Rest {
			cases = append(cases, tired(api.TiredRest, s.Who, s.From))
		}
		if minutesOn(l, s.Who, s.From, d.Window) > d.Sum {
			cases = append(cases, tired(api.TiredSum, s.Who, s.From))
		}
	}
	slices.SortFunc(cases, func(a, b api.Tired) int {
		return cmp.Or(cmp.Compare(a.Who, b.Who), cmp.Compare(a.At, b.At), cmp.Compare(a.Kind, b.Kind))
	})
	return cases
}

func TestP8_1TiredAll(t *testing.T) {
	r := rand.New(rand.NewSource(2))
	kinds := map[int]int{}
	for range 4000 {
		d, l := someDuty(r), someRoster(r, 7)
		got, e := crew.Tired(d, l)
		if want := allTired(d, l); !slices.Equal(got, want) || e != api.OK {
			t.Error(d, l, got, e, want)
		}
		for _, c := range got {
			kinds[c.Kind]++
		}
	}
	if kinds[1] < 500 || kinds[2] < 500 || kinds[3] < 500 {
		t.Error(kinds)
	}
}

// If nobody is named, no window has too much, wherever it begins, no shift is too long, and no rest is too short.
func TestP8_6Windows(t *testing.T) {
	r := rand.New(rand.NewSource(3))
	rested, tight := 0, 0
	for range 4000 {
		d, l := kindDuty(r), someRoster(r, 5)
		got, e := crew.Tired(d, l)
		if e != api.OK {
			t.Fatal(e)
		}
		most := 0
		for who := range 3 {
			for from := -d.Window; from < 40; from++ {
				most = max(most, minutesOn(l, who, from, d.Window))
			}
		}
		isNamed := slices.ContainsFunc(got, func(c api.Tired) bool { return c.Kind == api.TiredSum })
		if isNamed != (most > d.Sum) {
			t.Error(d, l, got, most)
		}
		if len(got) > 0 {
			continue
		}
		rested++
		if most == d.Sum {
			tight++
		}
		for i, s := range l {
			if s.To-s.From > d.Most {
				t.Error(d, l)
			}
			for _, o := range l[i+1:] {
				if s.Who == o.Who && max(o.From-s.To, s.From-o.To) < d.Rest {
					t.Error(d, l)
				}
			}
		}
	}
	if rested < 300 || tight < 30 {
		t.Error(rested, tight)
	}
}

// More shifts take no case away.
func TestP8_6MoreShifts(t *testing.T) {
	r := rand.New(rand.NewSource(4))
	for range 4000 {
		d, l := someDuty(r), someRoster(r, 7)
		all, _ := crew.Tired(d, l)
		fewer := slices.DeleteFunc(slices.Clone(l), func(api.Shift) bool { return r.Intn(3) == 0 })
		got, e := crew.Tired(d, fewer)
		if e != api.OK {
			t.Fatal(e)
		}
		for _, c := range got {
			if !slices.Contains(all, c) {
				t.Error(d, l, fewer, c)
			}
		}
	}
}
