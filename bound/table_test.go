package bound_test

import (
	"math"
	"math/big"
	"math/rand"
	"slices"
	"testing"

	"ballonet/api"
	"ballonet/bound"
)

const mostAt = api.MaxAt

func knot(at, lo, hi int) api.Knot { return api.Knot{At: at, Val: span(lo, hi)} }

// hill is the table of the chapter's examples.
func hill() []api.Knot { return []api.Knot{knot(0, 0, 2), knot(10, 20, 25), knot(20, 5, 5)} }

// manyKnots returns n knots whose values go up and down.
func manyKnots(n int) []api.Knot {
	var t []api.Knot
	for i := range n {
		t = append(t, knot(i*3, i%2*10, i%2*10+1))
	}
	return t
}

func TestP1_3CheckTable(t *testing.T) {
	for i, l := range [][]api.Knot{
		hill(),
		manyKnots(2),
		manyKnots(api.MaxKnots),
		{knot(-mostAt, -mostAt, mostAt), knot(mostAt, mostAt, mostAt)},
		{knot(5, -mostAt, -mostAt), knot(6, 0, 0)},
	} {
		if e := bound.CheckTable(l); e != api.OK {
			t.Error(i, e)
		}
	}
	for i, l := range badTables() {
		if e := bound.CheckTable(l); e != api.ErrTable {
			t.Error(i, e)
		}
	}
}

func badTables() [][]api.Knot {
	bad := [][]api.Knot{nil, {}, {knot(0, 0, 0)}, manyKnots(api.MaxKnots + 1), make([]api.Knot, 1000), {knot(0, 0, 0), knot(0, 0, 0)}, {knot(1, 0, 0), knot(0, 0, 0)}}
	for _, k := range []api.Knot{
		knot(mostAt+1, 0, 0), knot(math.MaxInt, 0, 0), knot(20, 3, 2), knot(20, -mostAt-1, 0), knot(20, 0, mostAt+1),
		knot(20, math.MinInt, math.MaxInt), knot(20, math.MaxInt, math.MinInt), knot(10, 0, 0), knot(9, 0, 0), knot(math.MinInt, 0, 0),
		// These are valid spans, but not of a table.
		knot(20, mostAt+1, mostAt+1), knot(20, -mostAt-1, -mostAt-1), knot(20, -most, most),
	} {
		l := hill()
		l[2] = k
		bad = append(bad, l)
	}
	for _, k := range []api.Knot{knot(-mostAt-1, 0, 0), knot(math.MinInt, 0, 0), knot(0, 1, 0), knot(0, -mostAt-1, 0), knot(0, 0, mostAt+1), knot(10, 0, 0)} {
		l := hill()
		l[0] = k
		bad = append(bad, l)
	}
	return bad
}

// R1 and R2: the table's error comes before the span's, this before ErrArg, and nothing is beside them.
func TestP1_3Errors(t *testing.T) {
	check := func(l []api.Knot, s api.Span, want, wantOfValue api.Errno) {
		t.Helper()
		v, e := bound.Value(l, s)
		if e != wantOfValue || e != api.OK && v != (api.Span{}) {
			t.Error(l, s, v, e)
		}
		may, f := bound.May(l, s)
		must, g := bound.Must(l, s)
		if f != want || g != want || f != api.OK && len(may)+len(must) > 0 {
			t.Error(l, s, may, must, f, g)
		}
	}
	for _, l := range badTables() {
		for _, s := range append(badSpans(), span(0, 0), span(-most, most)) {
			check(l, s, api.ErrTable, api.ErrTable)
		}
	}
	for _, s := range badSpans() {
		check(hill(), s, api.ErrSpan, api.ErrSpan)
	}
	for _, s := range []api.Span{span(-1, 0), span(20, 21), span(-1, 21), span(-most, most), span(most, most), span(-most, -most), span(21, 21)} {
		check(hill(), s, api.OK, api.ErrArg)
	}
	check(hill(), span(0, 20), api.OK, api.OK)
}

func TestP1_3Value(t *testing.T) {
	wide := []api.Knot{knot(-mostAt, -mostAt, -mostAt), knot(mostAt, mostAt, mostAt)}
	fall := []api.Knot{knot(-mostAt, -mostAt, mostAt), knot(mostAt, -mostAt, -mostAt)}
	steep := []api.Knot{knot(mostAt-1, -mostAt, -mostAt), knot(mostAt, mostAt, mostAt)}
	for i, x := range []struct {
		l       []api.Knot
		x, want api.Span
	}{
		{hill(), span(3, 3), span(6, 9)},
		{hill(), span(5, 14), span(10, 25)},
		{hill(), span(0, 0), span(0, 2)},
		{hill(), span(20, 20), span(5, 5)},
		{hill(), span(10, 10), span(20, 25)},
		{hill(), span(10, 11), span(18, 25)},
		{hill(), span(9, 10), span(18, 25)},
		{hill(), span(0, 20), span(0, 25)},
		{wide, span(-mostAt, mostAt), span(-mostAt, mostAt)},
		{wide, span(-mostAt, -mostAt), span(-mostAt, -mostAt)},
		{wide, span(mostAt-1, mostAt-1), span(mostAt-1, mostAt-1)},
		{fall, span(0, 0), span(-mostAt, 0)},
		{fall, span(mostAt, mostAt), span(-mostAt, -mostAt)},
		{fall, span(mostAt-1, mostAt), span(-mostAt, -mostAt+1)},
		{steep, span(mostAt-1, mostAt), span(-mostAt, mostAt)},
		{steep, span(mostAt-1, mostAt-1), span(-mostAt, -mostAt)},
	} {
		if v, e := bound.Value(x.l, x.x); v != x.want || e != api.OK {
			t.Error(i, v, e)
		}
	}
}

func spans(ends ...int) []api.Span {
	var l []api.Span
	for i := 0; i+1 < len(ends); i += 2 {
		l = append(l, span(ends[i], ends[i+1]))
	}
	return l
}

func TestP1_3Places(t *testing.T) {
	wide := []api.Knot{knot(-mostAt, -mostAt, -mostAt), knot(mostAt, mostAt, mostAt)}
	fall := []api.Knot{knot(-mostAt, mostAt, mostAt), knot(mostAt, -mostAt, -mostAt)}
	flat := []api.Knot{knot(0, 3, 4), knot(7, 3, 4), knot(9, 3, 4)}
	saw := []api.Knot{knot(0, 0, 0), knot(2, 4, 4), knot(4, 0, 0), knot(6, 4, 4), knot(7, 4, 4)}
	for i, x := range []struct {
		l         []api.Knot
		y         api.Span
		may, must []api.Span
	}{
		{hill(), span(20, 30), spans(8, 12), spans(10, 10)},
		{hill(), span(5, 5), spans(2, 2, 20, 20), spans(20, 20)},
		{hill(), span(0, 25), spans(0, 20), spans(0, 20)},
		{hill(), span(26, 99), nil, nil},
		{hill(), span(-99, -1), nil, nil},
		{hill(), span(0, 0), spans(0, 0), nil},
		{hill(), span(1, 1), spans(0, 0), nil},
		{flat, span(3, 4), spans(0, 9), spans(0, 9)},
		{flat, span(4, 5), spans(0, 9), nil},
		{flat, span(5, 6), nil, nil},
		{flat, span(1, 2), nil, nil},
		{saw, span(0, 2), spans(0, 1, 3, 5), spans(0, 1, 3, 5)},
		{saw, span(3, 4), spans(2, 2, 6, 7), spans(2, 2, 6, 7)},
		{saw, span(1, 3), spans(1, 1, 3, 3, 5, 5), spans(1, 1, 3, 3, 5, 5)},
		{saw, span(1, 1), nil, nil},
		{wide, span(-most, most), spans(-mostAt, mostAt), spans(-mostAt, mostAt)},
		{wide, span(-most, 5), spans(-mostAt, 5), spans(-mostAt, 5)},
		{wide, span(-5, most), spans(-5, mostAt), spans(-5, mostAt)},
		{wide, span(mostAt, mostAt), spans(mostAt, mostAt), spans(mostAt, mostAt)},
		{wide, span(mostAt+1, most), nil, nil},
		{wide, span(-most, -mostAt-1), nil, nil},
		{wide, span(most, most), nil, nil},
		{wide, span(-most, -most), nil, nil},
		{fall, span(-most, 5), spans(-5, mostAt), spans(-5, mostAt)},
		{fall, span(-5, most), spans(-mostAt, 5), spans(-mostAt, 5)},
		{fall, span(-mostAt, -mostAt), spans(mostAt, mostAt), spans(mostAt, mostAt)},
		{fall, span(most, most), nil, nil},
	} {
		may, e := bound.May(x.l, x.y)
		must, f := bound.Must(x.l, x.y)
		if !slices.Equal(may, x.may) || !slices.Equal(must, x.must) || e != api.OK || f != api.OK {
			t.Error(i, may, must, e, f)
		}
	}
}

// lineAt returns the value at x of the function that has these values at the knots and is linear between them.
func lineAt(l []api.Knot, values []int, x *big.Rat) *big.Rat {
	i := 0
	for i+2 < len(l) && rat(l[i+1].At).Cmp(x) < 0 {
		i++
	}
	part := new(big.Rat).Sub(x, rat(l[i].At))
	part.Quo(part, rat(l[i+1].At-l[i].At))
	part.Mul(part, rat(values[i+1]-values[i]))
	return part.Add(part, rat(values[i]))
}

func lowValues(l []api.Knot) []int {
	var v []int
	for _, k := range l {
		v = append(v, k.Val.Lo)
	}
	return v
}

func highValues(l []api.Knot) []int {
	var v []int
	for _, k := range l {
		v = append(v, k.Val.Hi)
	}
	return v
}

// someTable returns a table of up to seven knots with small numbers, or (wide) with large ones.
func someTable(r *rand.Rand, wide bool) []api.Knot {
	step, height := 12, 15
	if wide {
		step, height = mostAt/4, mostAt
	}
	at := -step - r.Intn(step)
	var l []api.Knot
	for range 2 + r.Intn(6) {
		a, b := r.Intn(2*height+1)-height, r.Intn(2*height+1)-height
		if r.Intn(3) == 0 {
			b = a
		}
		l = append(l, knot(at, min(a, b), max(a, b)))
		at += 1 + r.Intn(step)
		if at > mostAt {
			break
		}
	}
	if len(l) < 2 {
		return someTable(r, wide)
	}
	return l
}

// The value is the least span of what the lines have at the ends and at the knots between.
func TestP1_3ValueLeast(t *testing.T) {
	r := rand.New(rand.NewSource(3))
	for i := range 3000 {
		l := someTable(r, i%2 == 0)
		x := narrow(r, span(l[0].At, l[len(l)-1].At))
		places := []*big.Rat{rat(x.Lo), rat(x.Hi)}
		for _, k := range l {
			if k.At > x.Lo && k.At < x.Hi {
				places = append(places, rat(k.At))
			}
		}
		var all []*big.Rat
		for _, p := range places {
			all = append(all, lineAt(l, lowValues(l), p), lineAt(l, highValues(l), p))
		}
		want, _ := leastSpan(all)
		if v, e := bound.Value(l, x); v != want || e != api.OK {
			t.Fatal(l, x, v, e, want)
		}
	}
}

// runs returns the spans of whole numbers from lo to hi that is holds for.
func runs(lo, hi int, is func(x int) bool) []api.Span {
	var l []api.Span
	for x := lo; x <= hi; x++ {
		if !is(x) {
			continue
		}
		if n := len(l); n > 0 && l[n-1].Hi == x-1 {
			l[n-1].Hi = x
		} else {
			l = append(l, span(x, x))
		}
	}
	return l
}

func TestP1_3PlacesAll(t *testing.T) {
	r := rand.New(rand.NewSource(4))
	for range 3000 {
		l := someTable(r, false)
		a, b := r.Intn(41)-20, r.Intn(41)-20
		y := span(min(a, b), max(a, b))
		from, to := l[0].At, l[len(l)-1].At
		low := func(x int) *big.Rat { return lineAt(l, lowValues(l), rat(x)) }
		high := func(x int) *big.Rat { return lineAt(l, highValues(l), rat(x)) }
		may := runs(from, to, func(x int) bool { return low(x).Cmp(rat(y.Hi)) <= 0 && high(x).Cmp(rat(y.Lo)) >= 0 })
		must := runs(from, to, func(x int) bool { return low(x).Cmp(rat(y.Lo)) >= 0 && high(x).Cmp(rat(y.Hi)) <= 0 })
		got, e := bound.May(l, y)
		got2, f := bound.Must(l, y)
		if !slices.Equal(got, may) || !slices.Equal(got2, must) || e != api.OK || f != api.OK {
			t.Fatal(l, y, got, may, got2, must)
		}
	}
}

func among(l []api.Span, x int) bool {
	return slices.ContainsFunc(l, func(s api.Span) bool { return s.Lo <= x && x <= s.Hi })
}

// covers reports whether what some spans hold is in others, each in one of them.
func covers(l, inner []api.Span) bool {
	for _, s := range inner {
		if !slices.ContainsFunc(l, func(w api.Span) bool { return w.Lo <= s.Lo && s.Hi <= w.Hi }) {
			return false
		}
	}
	return true
}

// A function is drawn within the knots' spans; what it does is told.
func TestP1_8(t *testing.T) {
	r := rand.New(rand.NewSource(5))
	for i := range 3000 {
		l := someTable(r, i%3 == 0)
		var values []int
		for _, k := range l {
			values = append(values, k.Val.Lo+r.Intn(k.Val.Hi-k.Val.Lo+1))
		}
		x := narrow(r, span(l[0].At, l[len(l)-1].At))
		v, e := bound.Value(l, x)
		for _, p := range spread(r, x) {
			if f := lineAt(l, values, p); e != api.OK || f.Cmp(rat(v.Lo)) < 0 || f.Cmp(rat(v.Hi)) > 0 {
				t.Fatal(l, values, x, p, v, e)
			}
		}
		y := narrow(r, span(-20, 20))
		if i%3 == 0 {
			y = narrow(r, span(-2*mostAt, 2*mostAt))
		}
		may, _ := bound.May(l, y)
		must, _ := bound.Must(l, y)
		f := lineAt(l, values, rat(x.Lo))
		in := f.Cmp(rat(y.Lo)) >= 0 && f.Cmp(rat(y.Hi)) <= 0
		if in && !among(may, x.Lo) || among(must, x.Lo) && !in || !covers(may, must) {
			t.Fatal(l, values, x.Lo, y, may, must)
		}
		slim := narrow(r, y)
		may2, _ := bound.May(l, slim)
		must2, _ := bound.Must(l, slim)
		if !covers(may, may2) || !covers(must, must2) {
			t.Fatal(l, y, slim, may, may2, must, must2)
		}
	}
}
