package bound_test

import (
	"math"
	"math/big"
	"math/rand"
	"testing"

	"ballonet/api"
	"ballonet/bound"
)

const most = api.MaxBound

func span(lo, hi int) api.Span { return api.Span{Lo: lo, Hi: hi} }

// badSpans are spans that are not valid.
func badSpans() []api.Span {
	return []api.Span{
		span(1, 0), span(most, -most), span(-most-1, 0), span(0, most+1), span(-most-1, most+1),
		span(math.MinInt, math.MaxInt), span(math.MinInt, 0), span(0, math.MaxInt),
		span(math.MaxInt, math.MinInt), span(math.MaxInt, math.MaxInt), span(math.MinInt, math.MinInt),
		span(most+1, most+1), span(-most-1, -most-1),
	}
}

// ends are numbers at which spans are tried: small ones, roots of MaxBound, and those around its ends.
func ends() []int {
	return []int{-most, -most + 1, -1<<20 - 1, -1 << 20, -7, -3, -1, 0, 1, 2, 5, 1<<20 - 1, 1 << 20, 1<<20 + 1, most/3 + 1, most - 1, most}
}

// someSpan returns a valid span, small or large, often with ends that are in ends().
func someSpan(r *rand.Rand) api.Span {
	number := func() int {
		switch r.Intn(4) {
		case 0:
			l := ends()
			return l[r.Intn(len(l))]
		case 1:
			return r.Intn(2*most+1) - most
		case 2:
			return r.Intn(1<<22) - 1<<21
		}
		return r.Intn(41) - 20
	}
	a, b := number(), number()
	return span(min(a, b), max(a, b))
}

func TestP1_1Check(t *testing.T) {
	for _, s := range []api.Span{{}, span(-most, most), span(most, most), span(-most, -most), span(-3, 5), span(7, 7)} {
		if e := bound.Check(s); e != api.OK {
			t.Error(s, e)
		}
	}
	for _, s := range badSpans() {
		if e := bound.Check(s); e != api.ErrSpan {
			t.Error(s, e)
		}
	}
}

type binary struct {
	name string
	f    func(a, b api.Span) (api.Span, api.Errno)
}

func binaries() []binary {
	return []binary{{"Add", bound.Add}, {"Sub", bound.Sub}, {"Mul", bound.Mul}, {"Meet", bound.Meet}, {"Join", bound.Join}}
}

// R1 and R2: an invalid span comes first, whatever else is wrong, and nothing is beside it.
func TestP1_1SpanErrors(t *testing.T) {
	large := span(most, most)
	for _, bad := range badSpans() {
		for _, pair := range [][2]api.Span{{bad, large}, {large, bad}, {bad, bad}, {bad, span(-1, 2)}, {span(0, 0), bad}} {
			for _, b := range binaries() {
				if s, e := b.f(pair[0], pair[1]); e != api.ErrSpan || s != (api.Span{}) {
					t.Error(b.name, pair, s, e)
				}
			}
			if is, e := bound.Holds(pair[0], pair[1]); e != api.ErrSpan || is {
				t.Error(pair, is, e)
			}
			for _, c := range []api.Span{span(1, 1), span(0, 1), span(-5, -4), bad} {
				if s, e := bound.Over(pair[0], pair[1], c); e != api.ErrSpan || s != (api.Span{}) {
					t.Error(pair, c, s, e)
				}
			}
		}
		if s, e := bound.Over(large, large, bad); e != api.ErrSpan || s != (api.Span{}) {
			t.Error(bad, s, e)
		}
		if s, e := bound.Root(bad); e != api.ErrSpan || s != (api.Span{}) {
			t.Error(bad, s, e)
		}
	}
}

func TestP1_1Sums(t *testing.T) {
	for i, x := range []struct {
		f    func(a, b api.Span) (api.Span, api.Errno)
		a, b api.Span
		want api.Span
		e    api.Errno
	}{
		{bound.Add, span(1, 2), span(10, 20), span(11, 22), api.OK},
		{bound.Add, span(-most, 0), span(0, most), span(-most, most), api.OK},
		{bound.Add, span(-most, 0), span(-1, 0), api.Span{}, api.ErrLarge},
		{bound.Add, span(0, most), span(0, 1), api.Span{}, api.ErrLarge},
		{bound.Add, span(most, most), span(most, most), api.Span{}, api.ErrLarge},
		{bound.Add, span(-most, -most), span(-most, -most), api.Span{}, api.ErrLarge},
		{bound.Sub, span(1, 2), span(10, 20), span(-19, -8), api.OK},
		{bound.Sub, span(most, most), span(0, most), span(0, most), api.OK},
		{bound.Sub, span(most, most), span(-1, most), api.Span{}, api.ErrLarge},
		{bound.Sub, span(-most, 0), span(0, 1), api.Span{}, api.ErrLarge},
		{bound.Sub, span(-most, -most), span(most, most), api.Span{}, api.ErrLarge},
		{bound.Mul, span(-2, 3), span(-5, 4), span(-15, 12), api.OK},
		{bound.Mul, span(2, 3), span(4, 5), span(8, 15), api.OK},
		{bound.Mul, span(-3, -2), span(-5, -4), span(8, 15), api.OK},
		{bound.Mul, span(-3, -2), span(4, 5), span(-15, -8), api.OK},
		{bound.Mul, span(0, 0), span(-most, most), span(0, 0), api.OK},
		{bound.Mul, span(1<<20, 1<<20), span(1<<20, 1<<20), span(most, most), api.OK},
		{bound.Mul, span(-1<<20, -1<<20), span(0, 1<<20), span(-most, 0), api.OK},
		{bound.Mul, span(-1<<20-1, 0), span(0, 1<<20), api.Span{}, api.ErrLarge},
		{bound.Mul, span(-most, most), span(-most, most), api.Span{}, api.ErrLarge},
		// 2^32 times 2^32 is 2^64, which is 0 in a word of 64 bits.
		{bound.Mul, span(1<<32, 1<<32), span(1<<32, 1<<32), api.Span{}, api.ErrLarge},
		{bound.Mul, span(-1<<32, -1<<32), span(1<<32, 1<<32), api.Span{}, api.ErrLarge},
		{bound.Mul, span(1<<31, 1<<31), span(1<<32, 1<<32), api.Span{}, api.ErrLarge},
	} {
		if s, e := x.f(x.a, x.b); s != x.want || e != x.e {
			t.Error(i, s, e)
		}
	}
}

func TestP1_1Over(t *testing.T) {
	for i, x := range []struct {
		a, b, c, want api.Span
		e             api.Errno
	}{
		{span(1, 2), span(3, 3), span(2, 7), span(0, 3), api.OK},
		{span(-7, -7), span(1, 1), span(2, 2), span(-4, -3), api.OK},
		{span(-7, 7), span(-1, 1), span(2, 2), span(-4, 4), api.OK},
		{span(-6, -6), span(1, 1), span(2, 4), span(-3, -1), api.OK},
		{span(0, 0), span(most, most), span(1, most), span(0, 0), api.OK},
		{span(1, 1), span(1, 1), span(most, most), span(0, 1), api.OK},
		{span(-1, -1), span(1, 1), span(most, most), span(-1, 0), api.OK},
		{span(most, most), span(-most, most), span(most, most), span(-most, most), api.OK},
		{span(-most, -most), span(-most, -most), span(most, most), span(most, most), api.OK},
		{span(most, most), span(3, 3), span(3, 3), span(most, most), api.OK},
		// The products are 2^41 - 1 and 2^41 + 1: a half below MaxBound, and a half above, which is rounded up to what is too large.
		{span(13367, 13367), span(164511353, 164511353), span(2, 2), span(most-1, most), api.OK},
		{span(3, 3), span(733007751851, 733007751851), span(2, 2), api.Span{}, api.ErrLarge},
		{span(-3, -3), span(733007751851, 733007751851), span(2, 2), api.Span{}, api.ErrLarge},
		{span(most, most), span(most, most), span(most-1, most-1), api.Span{}, api.ErrLarge},
		{span(most, most), span(-most, -most), span(most-1, most-1), api.Span{}, api.ErrLarge},
		{span(most, most), span(2, 2), span(1, 2), api.Span{}, api.ErrLarge},
		{span(most, most), span(most, most), span(1, most), api.Span{}, api.ErrLarge},
		{span(-most, -most), span(most, most), span(1, most), api.Span{}, api.ErrLarge},
		// ErrZero comes before ErrLarge.
		{span(most, most), span(most, most), span(0, 5), api.Span{}, api.ErrZero},
		{span(1, 1), span(1, 1), span(0, 0), api.Span{}, api.ErrZero},
		{span(1, 1), span(1, 1), span(-5, -1), api.Span{}, api.ErrZero},
		{span(1, 1), span(1, 1), span(-most, most), api.Span{}, api.ErrZero},
		{span(0, 0), span(0, 0), span(0, 0), api.Span{}, api.ErrZero},
	} {
		if s, e := bound.Over(x.a, x.b, x.c); s != x.want || e != x.e {
			t.Error(i, s, e)
		}
	}
}

func TestP1_1Root(t *testing.T) {
	for i, x := range []struct {
		a, want api.Span
		e       api.Errno
	}{
		{span(2, 9), span(1, 3), api.OK},
		{span(0, 0), span(0, 0), api.OK},
		{span(0, 1), span(0, 1), api.OK},
		{span(1, 2), span(1, 2), api.OK},
		{span(9, 9), span(3, 3), api.OK},
		{span(10, 10), span(3, 4), api.OK},
		{span(8, 8), span(2, 3), api.OK},
		{span(0, most), span(0, 1<<20), api.OK},
		{span(most, most), span(1<<20, 1<<20), api.OK},
		{span(most-1, most-1), span(1<<20-1, 1<<20), api.OK},
		{span(-1, 0), api.Span{}, api.ErrArg},
		{span(-most, most), api.Span{}, api.ErrArg},
		{span(-9, -4), api.Span{}, api.ErrArg},
	} {
		if s, e := bound.Root(x.a); s != x.want || e != x.e {
			t.Error(i, s, e)
		}
	}
	for n := range 5000 {
		s, e := bound.Root(span(n, n))
		if e != api.OK || s.Lo*s.Lo > n || (s.Lo+1)*(s.Lo+1) <= n || s.Hi*s.Hi < n || n > 0 && (s.Hi-1)*(s.Hi-1) >= n {
			t.Error(n, s, e)
		}
	}
}

func TestP1_2(t *testing.T) {
	for i, x := range []struct {
		a, b, meet api.Span
		e          api.Errno
		join       api.Span
		holds      bool
	}{
		{span(0, 4), span(3, 9), span(3, 4), api.OK, span(0, 9), false},
		{span(0, 2), span(3, 9), api.Span{}, api.ErrNone, span(0, 9), false},
		{span(3, 9), span(0, 2), api.Span{}, api.ErrNone, span(0, 9), false},
		{span(0, 3), span(3, 9), span(3, 3), api.OK, span(0, 9), false},
		{span(0, 9), span(3, 5), span(3, 5), api.OK, span(0, 9), true},
		{span(3, 5), span(0, 9), span(3, 5), api.OK, span(0, 9), false},
		{span(3, 5), span(3, 5), span(3, 5), api.OK, span(3, 5), true},
		{span(3, 5), span(3, 6), span(3, 5), api.OK, span(3, 6), false},
		{span(3, 5), span(2, 5), span(3, 5), api.OK, span(2, 5), false},
		{span(-most, most), span(most, most), span(most, most), api.OK, span(-most, most), true},
		{span(-most, -most), span(most, most), api.Span{}, api.ErrNone, span(-most, most), false},
	} {
		if s, e := bound.Meet(x.a, x.b); s != x.meet || e != x.e {
			t.Error(i, s, e)
		}
		if s, e := bound.Join(x.a, x.b); s != x.join || e != api.OK {
			t.Error(i, s, e)
		}
		if is, e := bound.Holds(x.a, x.b); is != x.holds || e != api.OK {
			t.Error(i, is, e)
		}
	}
}

func rat(n int) *big.Rat { return new(big.Rat).SetInt64(int64(n)) }

// leastSpan returns the least span of some numbers, and whether it is not too large.
func leastSpan(l []*big.Rat) (api.Span, bool) {
	lo, hi := l[0], l[0]
	for _, x := range l {
		if x.Cmp(lo) < 0 {
			lo = x
		}
		if x.Cmp(hi) > 0 {
			hi = x
		}
	}
	down := new(big.Int).Div(lo.Num(), lo.Denom())
	up := new(big.Int).Neg(new(big.Int).Div(new(big.Int).Neg(hi.Num()), hi.Denom()))
	bounds := big.NewInt(most)
	if down.CmpAbs(bounds) > 0 || up.CmpAbs(bounds) > 0 {
		return api.Span{}, false
	}
	return span(int(down.Int64()), int(up.Int64())), true
}

// spread returns numbers of a span: its ends, and some between them that are not whole.
func spread(r *rand.Rand, s api.Span) []*big.Rat {
	l := []*big.Rat{rat(s.Lo), rat(s.Hi)}
	for range 2 {
		part := big.NewRat(int64(r.Intn(98)), 97)
		part.Mul(part, rat(s.Hi-s.Lo))
		l = append(l, part.Add(part, rat(s.Lo)))
	}
	return l
}

// each returns f of all triples of numbers of three spans.
func each(r *rand.Rand, a, b, c api.Span, f func(x, y, z *big.Rat) *big.Rat) []*big.Rat {
	var l []*big.Rat
	for _, x := range spread(r, a) {
		for _, y := range spread(r, b) {
			for _, z := range spread(r, c) {
				l = append(l, f(x, y, z))
			}
		}
	}
	return l
}

// N1: what is told is the least span of what comes out at many numbers, the ends among them: it holds them all, and no lesser one does.
func TestP1_6Inside(t *testing.T) {
	r := rand.New(rand.NewSource(1))
	for range 4000 {
		a, b, c := someSpan(r), someSpan(r), someSpan(r)
		if c.Lo <= 0 && c.Hi > 0 && r.Intn(8) > 0 {
			c.Lo = 1 + r.Intn(c.Hi)
		}
		one := span(1, 1)
		for _, x := range []struct {
			name string
			c    api.Span
			f    func() (api.Span, api.Errno)
			real func(x, y, z *big.Rat) *big.Rat
		}{
			{"Add", one, func() (api.Span, api.Errno) { return bound.Add(a, b) }, func(x, y, z *big.Rat) *big.Rat { return new(big.Rat).Add(x, y) }},
			{"Sub", one, func() (api.Span, api.Errno) { return bound.Sub(a, b) }, func(x, y, z *big.Rat) *big.Rat { return new(big.Rat).Sub(x, y) }},
			{"Mul", one, func() (api.Span, api.Errno) { return bound.Mul(a, b) }, func(x, y, z *big.Rat) *big.Rat { return new(big.Rat).Mul(x, y) }},
			{"Over", c, func() (api.Span, api.Errno) { return bound.Over(a, b, c) }, func(x, y, z *big.Rat) *big.Rat {
				return new(big.Rat).Quo(new(big.Rat).Mul(x, y), z)
			}},
		} {
			s, e := x.f()
			want, fits := api.Span{}, false
			wantE := api.ErrZero
			if x.c.Lo > 0 {
				want, fits = leastSpan(each(r, a, b, x.c, x.real))
				wantE = api.ErrLarge
			}
			if fits {
				wantE = api.OK
			}
			if s != want || e != wantE {
				t.Fatal(x.name, a, b, x.c, s, e, want, wantE)
			}
		}
	}
}

// narrow returns a span that s holds.
func narrow(r *rand.Rand, s api.Span) api.Span {
	lo := s.Lo + r.Intn(s.Hi-s.Lo+1)
	return span(lo, lo+r.Intn(s.Hi-lo+1))
}

// Narrower spans tell nothing that was not held before.
func TestP1_6Narrow(t *testing.T) {
	r := rand.New(rand.NewSource(2))
	check := func(wide api.Span, e api.Errno, slim api.Span, f api.Errno) {
		t.Helper()
		if e != api.OK {
			return
		}
		if is, g := bound.Holds(wide, slim); f != api.OK || g != api.OK || !is {
			t.Error(wide, slim, f, g)
		}
	}
	for range 3000 {
		a, b, c := someSpan(r), someSpan(r), someSpan(r)
		c = span(max(c.Lo, 1), max(c.Hi, 1))
		p, q, d := narrow(r, a), narrow(r, b), narrow(r, c)
		for _, x := range binaries() {
			if x.name != "Meet" {
				wide, e := x.f(a, b)
				slim, f := x.f(p, q)
				check(wide, e, slim, f)
			}
		}
		wide, e := bound.Over(a, b, c)
		slim, f := bound.Over(p, q, d)
		check(wide, e, slim, f)
		wide, e = bound.Root(a)
		slim, f = bound.Root(p)
		check(wide, e, slim, f)
		if slim, f = bound.Meet(p, q); f == api.OK {
			wide, e = bound.Meet(a, b)
			check(wide, e, slim, f)
		}
	}
}

func TestP1_7(t *testing.T) {
	var spans []api.Span
	for _, lo := range ends() {
		for _, hi := range ends() {
			if lo <= hi {
				spans = append(spans, span(lo, hi))
			}
		}
	}
	held := func(a, b api.Span) bool {
		is, e := bound.Holds(a, b)
		return is && e == api.OK
	}
	for _, a := range spans {
		for _, b := range spans {
			meet, e := bound.Meet(a, b)
			meet2, e2 := bound.Meet(b, a)
			join, f := bound.Join(a, b)
			join2, f2 := bound.Join(b, a)
			if meet != meet2 || e != e2 || join != join2 || f != api.OK || f2 != api.OK {
				t.Error("sides", a, b)
			}
			if e == api.OK && (!held(a, meet) || !held(b, meet)) || !held(join, a) || !held(join, b) {
				t.Error("held", a, b)
			}
			if is := held(a, b); is != (join == a) || is != (e == api.OK && meet == b) {
				t.Error("holds", a, b, is)
			}
			if apart := a.Hi < b.Lo || b.Hi < a.Lo; apart != (e == api.ErrNone) {
				t.Error("none", a, b, e)
			}
		}
	}
}
