package bound_test

import (
	"math"
	"math/rand"
	"slices"
	"testing"

	"ballonet/api"
	"ballonet/bound"
)

// roomy returns a list with the same elements, and others behind them, between its length and its capacity.
func roomy[T any](l []T, behind T) []T {
	m := slices.Clone(l)
	for range 5 {
		m = append(m, behind)
	}
	return m[:len(l)]
}

// untouched runs f on a list with room behind it, and checks that all of its memory is as it was.
func untouched[T comparable](t *testing.T, name string, l []T, behind T, f func(l []T)) {
	t.Helper()
	m := roomy(l, behind)
	before := slices.Clone(m[:cap(m)])
	f(m)
	if !slices.Equal(m[:cap(m)], before) {
		t.Error(name, "changed", before, "to", m[:cap(m)])
	}
}

// R3: arguments are only read.
func TestP1Untouched(t *testing.T) {
	for i, l := range [][]api.Corner{square(), corners(4, 4, 0, 0, 0, 0, 2, 2, 4, 0), corners(3, 3), bowl(64, 1), nil} {
		untouched(t, "region", l, corner(-9, 9), func(r []api.Corner) {
			bound.Hull(r)
			bound.CheckRegion(r)
			bound.Inside(r, corner(1, 1))
			bound.Within(r, square())
			bound.Within(square(), r)
			bound.Reach(r, 1, 2)
			bound.Sum(r, square())
			bound.Sum(corners(1, 1), r)
			bound.Parts(r, r, 1, 2)
			bound.Apart(r, corners(90+i, 0))
			bound.Apart(corners(90+i, 0), r)
		})
	}
	for _, l := range [][]api.Knot{hill(), manyKnots(32), nil} {
		untouched(t, "table", l, knot(1, 2, 3), func(k []api.Knot) {
			bound.CheckTable(k)
			bound.Value(k, span(0, 3))
			bound.May(k, span(3, 7))
			bound.Must(k, span(3, 7))
		})
	}
}

// R3: results share no memory with arguments, nor with the results of other calls.
func TestP1NewMemory(t *testing.T) {
	for i, f := range []func(l []api.Corner) ([]api.Corner, api.Errno){
		bound.Hull,
		func(l []api.Corner) ([]api.Corner, api.Errno) { return bound.Sum(l, corners(0, 0)) },
		func(l []api.Corner) ([]api.Corner, api.Errno) { return bound.Sum(corners(0, 0), l) },
	} {
		for _, l := range [][]api.Corner{corners(3, 4), corners(3, 4, 5, 6), square()} {
			given := slices.Clone(l)
			first, e := f(given)
			second, _ := f(given)
			for k := range first[:cap(first)] {
				first[:cap(first)][k] = corner(77, 77)
			}
			if e != api.OK || !slices.Equal(given, l) || !slices.Equal(second, l) {
				t.Error(i, given, second, e)
			}
		}
	}
	for i, f := range []func(t []api.Knot, y api.Span) ([]api.Span, api.Errno){bound.May, bound.Must} {
		first, e := f(hill(), span(5, 5))
		want := slices.Clone(first)
		second, _ := f(hill(), span(5, 5))
		for k := range first {
			first[k] = span(77, 77)
		}
		if third, _ := f(hill(), span(5, 5)); e != api.OK || !slices.Equal(second, want) || !slices.Equal(third, want) {
			t.Error(i, second, third, e)
		}
	}
}

// wild returns any number, most often one at which something overflows or ends.
func wild(r *rand.Rand) int {
	base := []int{0, 0, 1, mostCorner, mostAt, 1 << 31, 1 << 32, most, 1 << 52, 1 << 62, math.MaxInt, math.MinInt}
	n := base[r.Intn(len(base))] + r.Intn(3) - 1
	if r.Intn(2) == 0 {
		return -n
	}
	return n
}

func wildSpan(r *rand.Rand) api.Span {
	if r.Intn(2) == 0 {
		return someSpan(r)
	}
	return span(wild(r), wild(r))
}

func wildTable(r *rand.Rand) []api.Knot {
	l := someTable(r, r.Intn(2) == 0)
	for range r.Intn(3) {
		l[r.Intn(len(l))] = knot(wild(r), wild(r), wild(r))
	}
	return l[:r.Intn(len(l)+1)]
}

func wildCorners(t *testing.T, r *rand.Rand) []api.Corner {
	if r.Intn(2) == 0 {
		return someRegion(t, r, 9, []int{2, 9, mostCorner}[r.Intn(3)])
	}
	l := somePoints(r, 70, []int{2, 9, mostCorner}[r.Intn(3)])
	for range r.Intn(3) {
		l[r.Intn(len(l))] = corner(wild(r), wild(r))
	}
	return l[:r.Intn(len(l)+1)]
}

// R2, R5, R6 and R7: whatever the arguments are, every call ends without a panic; what it returns is valid; and nothing is beside an error.
func TestP1Wild(t *testing.T) {
	r := rand.New(rand.NewSource(10))
	checkSpan := func(s api.Span, e api.Errno) {
		t.Helper()
		if e == api.OK && bound.Check(s) != api.OK || e != api.OK && s != (api.Span{}) {
			t.Error(s, e)
		}
	}
	checkSpans := func(l []api.Span, e api.Errno) {
		t.Helper()
		for i, s := range l {
			if bound.Check(s) != api.OK || i > 0 && s.Lo <= l[i-1].Hi+1 || e != api.OK {
				t.Error(l, e)
			}
		}
	}
	checkRegion := func(l []api.Corner, e api.Errno) {
		t.Helper()
		if e == api.OK && bound.CheckRegion(l) != api.OK || e != api.OK && len(l) > 0 {
			t.Error(l, e)
		}
	}
	checkIs := func(is bool, e api.Errno) {
		t.Helper()
		if is && e != api.OK {
			t.Error(is, e)
		}
	}
	for range 20000 {
		a, b, c := wildSpan(r), wildSpan(r), wildSpan(r)
		for _, x := range binaries() {
			checkSpan(x.f(a, b))
		}
		checkSpan(bound.Over(a, b, c))
		checkSpan(bound.Root(a))
		checkIs(bound.Holds(a, b))
		l := wildTable(r)
		checkSpan(bound.Value(l, a))
		checkSpans(bound.May(l, a))
		checkSpans(bound.Must(l, a))
		p, q := wildCorners(t, r), wildCorners(t, r)
		checkRegion(bound.Hull(p))
		checkIs(bound.Inside(p, corner(wild(r), wild(r))))
		checkIs(bound.Within(p, q))
		if n, e := bound.Reach(p, wild(r), wild(r)); n != 0 && e != api.OK {
			t.Error(n, e)
		}
		checkRegion(bound.Sum(p, q))
		checkIs(bound.Parts(p, q, wild(r), wild(r)))
		if dx, dy, e := bound.Apart(p, q); (dx != 0 || dy != 0) != (e == api.OK) {
			t.Error(dx, dy, e)
		}
	}
}
