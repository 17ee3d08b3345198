package mast_test

import (
	"math"
	"math/rand"
	"slices"
	"testing"

	"ballonet/api"
	"ballonet/mast"
)

func table(vars []api.Span, rows ...api.Row) api.Decisions {
	return api.Decisions{Vars: vars, Rows: rows}
}

func vars(l ...api.Span) []api.Span { return l }

// example is the chapter's.
func example() api.Decisions {
	return table(vars(span(0, 9)), cond(span(0, 4)), cond(span(4, 8)))
}

func badTables() []api.Decisions {
	l := []api.Decisions{
		{}, table(slices.Repeat(vars(only(0)), 4)), table(nil, api.Row{}), table(vars(only(0)), slices.Repeat([]api.Row{cond(only(0))}, 31)...),
		table(vars(only(0)), api.Row{}), table(vars(only(0)), cond(only(0), only(0))), table(vars(only(0), only(0)), cond(only(0))),
		table(vars(only(0)), cond(only(0)), cond(only(0), only(0))), table(vars(only(0)), cond(only(0)), api.Row{}),
	}
	for _, s := range []api.Span{
		span(1, 0), span(-1001, 0), span(0, 1001), only(1001), only(-1001), only(math.MaxInt), only(math.MinInt), span(math.MinInt, math.MaxInt), only(1 << 32),
	} {
		l = append(l, table(vars(s)), table(vars(only(0), s)), table(vars(only(0)), cond(s)), table(vars(only(0), only(1)), cond(only(0), only(1)), cond(only(0), s)))
	}
	for _, action := range []int{-1, 100, math.MinInt, math.MaxInt, 1 << 32} {
		d := example()
		d.Rows[1].Action = action
		l = append(l, d)
	}
	return l
}

func TestP7_6CheckRows(t *testing.T) {
	most := table(slices.Repeat(vars(span(-1000, 1000)), 3), slices.Repeat([]api.Row{cond(span(-1000, 1000), only(-1000), only(1000))}, 30)...)
	most.Rows[29].Action = 99
	for i, d := range []api.Decisions{
		example(), most, table(vars(only(0))), table(vars(only(1000), only(-1000))),
		// A row need not be within the variable's values.
		table(vars(only(0)), cond(only(7)), cond(span(-9, -3))),
	} {
		if e := mast.CheckRows(d); e != api.OK {
			t.Error(i, e)
		}
	}
	for i, d := range badTables() {
		if e := mast.CheckRows(d); e != api.ErrRows {
			t.Error(i, d, e)
		}
	}
}

func TestP7_6Decide(t *testing.T) {
	two := table(vars(span(0, 9), span(-5, 5)), cond(span(0, 4), span(-5, 0)), cond(span(0, 4), span(1, 5)), cond(span(5, 20), span(-20, 4)))
	for i, x := range []struct {
		d     api.Decisions
		state []int
		row   int
		e     api.Errno
	}{
		{example(), []int{0}, 0, api.OK},
		{example(), []int{3}, 0, api.OK},
		{example(), []int{4}, 0, api.ErrTwice},
		{example(), []int{5}, 1, api.OK},
		{example(), []int{8}, 1, api.OK},
		{example(), []int{9}, 0, api.ErrNone},
		{example(), []int{10}, 0, api.ErrArg},
		{example(), []int{-1}, 0, api.ErrArg},
		{example(), nil, 0, api.ErrArg},
		{example(), []int{3, 3}, 0, api.ErrArg},
		{example(), []int{math.MaxInt}, 0, api.ErrArg},
		{example(), []int{math.MinInt}, 0, api.ErrArg},
		{two, []int{4, 0}, 0, api.OK},
		{two, []int{4, 1}, 1, api.OK},
		{two, []int{0, -5}, 0, api.OK},
		{two, []int{0, 5}, 1, api.OK},
		{two, []int{5, 4}, 2, api.OK},
		{two, []int{9, -5}, 2, api.OK},
		{two, []int{5, 5}, 0, api.ErrNone},
		{two, []int{5, 6}, 0, api.ErrArg},
		{two, []int{10, 0}, 0, api.ErrArg},
		{two, []int{0, -6}, 0, api.ErrArg},
		{two, []int{0}, 0, api.ErrArg},
		{two, []int{0, 0, 0}, 0, api.ErrArg},
		{table(vars(only(7)), cond(only(6)), cond(only(7)), cond(only(8))), []int{7}, 1, api.OK},
		{table(vars(only(7)), cond(only(7)), cond(only(7)), cond(only(7))), []int{7}, 0, api.ErrTwice},
		{table(vars(only(7)), cond(only(6)), cond(only(7)), cond(only(7))), []int{7}, 0, api.ErrTwice},
		{table(vars(only(7))), []int{7}, 0, api.ErrNone},
	} {
		if row, e := mast.Decide(x.d, x.state); row != x.row || e != x.e {
			t.Error(i, row, e)
		}
	}
}

func TestP7_6Errors(t *testing.T) {
	for i, d := range badTables() {
		for _, state := range [][]int{nil, {0}, {0, 0}, {9999}} {
			if row, e := mast.Decide(d, state); row != 0 || e != api.ErrRows {
				t.Error(i, row, e)
			}
		}
		if state, e := mast.Gap(d); len(state) > 0 || e != api.ErrRows {
			t.Error(i, state, e)
		}
		if state, one, other, e := mast.Twice(d); len(state) > 0 || one != 0 || other != 0 || e != api.ErrRows {
			t.Error(i, state, one, other, e)
		}
	}
}

func TestP7_6GapTwice(t *testing.T) {
	three := vars(span(-1, 1), span(-1, 1), span(-1, 1))
	any1 := span(-1000, 1000)
	for i, x := range []struct {
		d        api.Decisions
		gap      []int
		twice    []int
		one, two int
	}{
		{example(), []int{9}, []int{4}, 0, 1},
		{table(vars(span(0, 9)), cond(span(4, 8)), cond(span(0, 4))), []int{9}, []int{4}, 0, 1},
		{table(vars(span(0, 8)), cond(span(0, 4)), cond(span(5, 8))), nil, nil, 0, 0},
		{table(vars(span(0, 8)), cond(span(0, 4)), cond(span(6, 8))), []int{5}, nil, 0, 0},
		{table(vars(span(0, 8)), cond(span(1, 4)), cond(span(3, 9))), []int{0}, []int{3}, 0, 1},
		{table(vars(span(5, 8)), cond(span(0, 6)), cond(span(-9, 9))), nil, []int{5}, 0, 1},
		{table(vars(span(5, 8)), cond(span(0, 4)), cond(span(9, 99))), []int{5}, nil, 0, 0},
		{table(vars(span(5, 8)), cond(span(0, 4)), cond(span(8, 99)), cond(any1), cond(any1)), nil, []int{5}, 2, 3},
		{table(vars(span(5, 8)), cond(span(0, 4)), cond(span(8, 99)), cond(span(5, 7))), nil, nil, 0, 0},
		{table(vars(span(5, 8))), []int{5}, nil, 0, 0},
		{table(vars(only(-1000))), []int{-1000}, nil, 0, 0},
		{table(vars(only(1000)), cond(only(1000))), nil, nil, 0, 0},
		{table(vars(span(-1000, 1000)), cond(span(-1000, 999))), []int{1000}, nil, 0, 0},
		{table(vars(span(-1000, 1000)), cond(span(-999, 1000))), []int{-1000}, nil, 0, 0},
		{table(vars(span(-1000, 1000)), cond(any1), cond(only(1000))), nil, []int{1000}, 0, 1},
		// In lexicographic order the first variable comes first.
		{table(three), []int{-1, -1, -1}, nil, 0, 0},
		{table(three, cond(any1, any1, any1), cond(only(0), only(1), only(-1)), cond(only(1), only(-1), only(-1))), nil, []int{0, 1, -1}, 0, 1},
		{table(three, cond(any1, any1, any1), cond(only(1), only(-1), only(-1)), cond(only(0), only(1), only(1))), nil, []int{0, 1, 1}, 0, 2},
		{table(three, cond(only(-1), any1, any1), cond(any1, only(-1), any1), cond(any1, any1, only(-1))), []int{0, 0, 0}, []int{-1, -1, -1}, 0, 1},
		{table(three, cond(only(-1), any1, any1), cond(span(0, 1), span(-1, 0), any1), cond(span(0, 1), only(1), span(-1, 0)), cond(only(1), only(1), only(1))), []int{0, 1, 1}, nil, 0, 0},
		{table(three, cond(span(0, 1), any1, any1), cond(only(-1), any1, any1)), nil, nil, 0, 0},
		// The first rows of all that match are named, not those that begin there.
		{table(vars(span(0, 9)), cond(only(5)), cond(span(3, 6)), cond(span(0, 9))), nil, []int{3}, 1, 2},
		{table(vars(span(0, 9)), cond(span(3, 4)), cond(span(3, 6)), cond(span(0, 9)), cond(only(3))), nil, []int{3}, 0, 1},
	} {
		wantE := api.OK
		if x.gap == nil {
			wantE = api.ErrNone
		}
		if state, e := mast.Gap(x.d); !slices.Equal(state, x.gap) || e != wantE {
			t.Error(i, state, e)
		}
		wantE = api.OK
		if x.twice == nil {
			wantE = api.ErrNone
		}
		if state, one, two, e := mast.Twice(x.d); !slices.Equal(state, x.twice) || one != x.one || two != x.two || e != wantE {
			t.Error(i, state, one, two, e)
		}
	}
}

// The largest tables have too many states to try them all.
func TestP7_6Largest(t *testing.T) {
	all := span(-1000, 1000)
	d := table(vars(all, all, all), cond(all, all, span(-1000, 999)), cond(all, span(-1000, 999), only(1000)), cond(span(-1000, 999), only(1000), only(1000)))
	if state, e := mast.Gap(d); e != api.OK || !slices.Equal(state, []int{1000, 1000, 1000}) {
		t.Error(state, e)
	}
	if state, _, _, e := mast.Twice(d); e != api.ErrNone || len(state) > 0 {
		t.Error(state, e)
	}
	d.Rows = append(d.Rows, cond(only(1000), only(1000), span(999, 1000)))
	if state, e := mast.Gap(d); e != api.ErrNone || len(state) > 0 {
		t.Error(state, e)
	}
	if state, one, two, e := mast.Twice(d); e != api.OK || !slices.Equal(state, []int{1000, 1000, 999}) || one != 0 || two != 3 {
		t.Error(state, one, two, e)
	}
	// Rows all of whose ends are different leave most to try.
	d.Rows = nil
	for i := range 29 {
		d.Rows = append(d.Rows, cond(span(-900+i, 800+i), span(-950+i, 700+i), span(-990+i, 900+i)))
	}
	d.Rows = append(d.Rows, cond(all, all, all))
	if state, e := mast.Gap(d); e != api.ErrNone || len(state) > 0 {
		t.Error(state, e)
	}
	if state, one, two, e := mast.Twice(d); e != api.OK || !slices.Equal(state, []int{-900, -950, -990}) || one != 0 || two != 29 {
		t.Error(state, one, two, e)
	}
}

// told checks what Decide, Gap and Twice tell of a table against all of its states, and returns whether they find a gap, and a state twice.
func told(t *testing.T, d api.Decisions) (isGap, isTwice bool) {
	t.Helper()
	var gap, twice, rows []int
	for _, state := range states(d) {
		l := matches(d, state)
		row, e := mast.Decide(d, state)
		switch {
		case len(l) == 0:
			if e != api.ErrNone || row != 0 {
				t.Fatal(d, state, row, e)
			}
			if gap == nil {
				gap = state
			}
		case len(l) == 1:
			if e != api.OK || row != l[0] {
				t.Fatal(d, state, row, e)
			}
		default:
			if e != api.ErrTwice || row != 0 {
				t.Fatal(d, state, row, e)
			}
			if twice == nil {
				twice, rows = state, l
			}
		}
	}
	state, e := mast.Gap(d)
	if !slices.Equal(state, gap) || (e == api.OK) != (gap != nil) || e != api.OK && e != api.ErrNone {
		t.Fatal(d, state, e, "want", gap)
	}
	state, one, two, e := mast.Twice(d)
	if !slices.Equal(state, twice) || (e == api.OK) != (twice != nil) || e != api.OK && (e != api.ErrNone || one != 0 || two != 0) {
		t.Fatal(d, state, e, "want", twice)
	}
	if twice != nil && (one != rows[0] || two != rows[1]) {
		t.Fatal(d, state, one, two, "want", rows)
	}
	return gap != nil, twice != nil
}

func TestP7_11(t *testing.T) {
	r := rand.New(rand.NewSource(711))
	gaps, twices, wholes := 0, 0, 0
	for range 3000 {
		isGap, isTwice := told(t, someTable(r))
		if isGap {
			gaps++
		}
		if isTwice {
			twices++
		}
		if !isGap && !isTwice {
			wholes++
		}
	}
	if gaps < 300 || twices < 300 || wholes < 30 {
		t.Error(gaps, twices, wholes)
	}
}

// Each state of a table that is cut up has one decision; without one of its rows it has a gap, and with one more something is twice.
func TestN7Decisions(t *testing.T) {
	r := rand.New(rand.NewSource(712))
	for range 1500 {
		d := splitTable(r)
		if isGap, isTwice := told(t, d); isGap || isTwice {
			t.Fatal(d, isGap, isTwice)
		}
		i := r.Intn(len(d.Rows))
		if isGap, isTwice := told(t, table(d.Vars, slices.Delete(slices.Clone(d.Rows), i, i+1)...)); !isGap || isTwice {
			t.Fatal(d, i, isGap, isTwice)
		}
		if isGap, isTwice := told(t, table(d.Vars, slices.Insert(slices.Clone(d.Rows), r.Intn(len(d.Rows)), d.Rows[i])...)); isGap || !isTwice {
			t.Fatal(d, i, isGap, isTwice)
		}
	}
}
