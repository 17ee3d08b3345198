package mast_test

import (
	"math"
	"math/big"
	"math/rand"
	"slices"
	"testing"

	"ballonet/api"
	"ballonet/mast"
)

func TestP7_1CheckAxis(t *testing.T) {
	for _, a := range []api.Axis{axis(1, 0), axis(0, -1), axis(1000, 1000), axis(-1000, -1000), axis(-1000, 1000), axis(1000, 0), axis(0, -1000), axis(999, 1)} {
		if e := mast.CheckAxis(a); e != api.OK {
			t.Error(a, e)
		}
	}
	for _, a := range badAxes() {
		if e := mast.CheckAxis(a); e != api.ErrAxis {
			t.Error(a, e)
		}
	}
}

func badAxes() []api.Axis {
	return []api.Axis{
		{}, axis(1001, 0), axis(-1001, 0), axis(0, 1001), axis(0, -1001), axis(1001, 1001), axis(1, -1001),
		axis(math.MaxInt, 1), axis(math.MinInt, 1), axis(1, math.MaxInt), axis(1, math.MinInt), axis(1<<32, 1), axis(1, 1<<32),
	}
}

func TestP7_1CheckWind(t *testing.T) {
	for _, s := range []api.Span{only(0), only(2000), only(-2000), span(-2000, 2000), span(-1, 0), span(1999, 2000)} {
		if e, f := mast.CheckWind(wind(s, only(0))), mast.CheckWind(wind(only(0), s)); e != api.OK || f != api.OK {
			t.Error(s, e, f)
		}
	}
	for _, w := range badWinds() {
		if e := mast.CheckWind(w); e != api.ErrBlow {
			t.Error(w, e)
		}
	}
}

func badWinds() []api.Wind {
	var l []api.Wind
	for _, s := range []api.Span{
		span(1, 0), span(2000, -2000), span(-2001, 0), span(0, 2001), only(2001), only(-2001),
		span(math.MinInt, 0), span(0, math.MaxInt), only(math.MinInt), only(math.MaxInt), span(math.MaxInt, math.MinInt), only(1 << 32),
	} {
		l = append(l, wind(s, only(0)), wind(only(0), s), wind(s, s))
	}
	return l
}

func TestP7_1Cross(t *testing.T) {
	for i, x := range []struct {
		w    api.Wind
		a    api.Axis
		want api.Span
	}{
		{breeze(), axis(0, 1), span(0, 30)},
		{breeze(), axis(1, 0), only(40)},
		{breeze(), axis(3, 4), span(0, 24)},
		{breeze(), axis(-3, -4), span(0, 24)},
		{breeze(), axis(300, 400), span(0, 24)},
		{breeze(), axis(3, -4), span(24, 48)},
		{breeze(), axis(4, 3), span(14, 32)},
		// The least crosswind is not at an end, if the wind may come from both sides.
		{wind(span(-5, 7), only(0)), axis(0, 1), span(0, 7)},
		{wind(span(-7, 5), only(0)), axis(0, 1), span(0, 7)},
		{wind(span(3, 7), only(0)), axis(0, 1), span(3, 7)},
		{wind(span(-7, -3), only(0)), axis(0, 1), span(3, 7)},
		{wind(span(-7, 0), only(0)), axis(0, 1), span(0, 7)},
		{wind(only(0), span(-7, -3)), axis(1, 0), span(3, 7)},
		{wind(span(-7, 7), span(-7, 7)), axis(1, 0), span(0, 7)},
		// It is rounded outwards, also where it is hardly more than a whole number (99), or hardly less (1393).
		{wind(only(1), only(0)), axis(1, 1), span(0, 1)},
		{wind(only(0), only(1)), axis(1, 1), span(0, 1)},
		{wind(only(1), only(1)), axis(1, 1), only(0)},
		{wind(only(99), only(0)), axis(1, 1), span(70, 71)},
		{wind(only(1393), only(0)), axis(1, 1), span(984, 985)},
		{wind(only(140), only(0)), axis(1, 1), span(98, 99)},
		{wind(only(2), only(-2)), axis(1, 1), span(2, 3)},
		{wind(only(5), only(-5)), axis(7, 7), span(7, 8)},
		{wind(only(7), only(1)), axis(1, -1), span(5, 6)},
		// The greatest.
		{wind(only(2000), only(-2000)), axis(1000, 1000), span(2828, 2829)},
		{wind(span(-2000, 2000), span(-2000, 2000)), axis(-1000, 1000), span(0, 2829)},
		{wind(span(-2000, 2000), span(-2000, 2000)), axis(0, 1000), span(0, 2000)},
		{wind(only(2000), only(2000)), axis(1000, 999), span(1, 2)},
		{wind(only(0), only(0)), axis(17, 19), only(0)},
	} {
		if s, e := mast.Cross(x.w, x.a); s != x.want || e != api.OK {
			t.Error(i, s, e, "want", x.want)
		}
	}
}

func TestP7_1Calm(t *testing.T) {
	for i, x := range []struct {
		w    api.Wind
		a    api.Axis
		most int
		want bool
	}{
		{breeze(), axis(0, 1), 30, true},
		{breeze(), axis(0, 1), 29, false},
		{breeze(), axis(1, 0), 40, true},
		{breeze(), axis(1, 0), 39, false},
		{breeze(), axis(3, 4), 24, true},
		{breeze(), axis(3, 4), 23, false},
		{breeze(), axis(3, 4), 2000, true},
		{wind(only(1), only(0)), axis(1, 1), 0, false},
		{wind(only(1), only(0)), axis(1, 1), 1, true},
		{wind(only(99), only(0)), axis(1, 1), 70, false},
		{wind(only(99), only(0)), axis(1, 1), 71, true},
		{wind(only(0), only(0)), axis(1, 1), 0, true},
		{wind(only(9), only(9)), axis(1, 1), 0, true},
		{wind(only(2000), only(-2000)), axis(1, 1), 2000, false},
		{wind(only(-2000), only(0)), axis(0, 1), 2000, true},
		{wind(only(-2000), only(0)), axis(0, 1), 1999, false},
	} {
		if is, e := mast.Calm(x.w, x.a, x.most); is != x.want || e != api.OK {
			t.Error(i, is, e)
		}
	}
}

func TestP7_1Errors(t *testing.T) {
	for _, w := range badWinds() {
		for _, a := range append(badAxes(), axis(1, 0)) {
			if s, e := mast.Cross(w, a); s != only(0) || e != api.ErrBlow {
				t.Error(w, a, s, e)
			}
			if is, e := mast.Calm(w, a, -1); is || e != api.ErrBlow {
				t.Error(w, a, is, e)
			}
		}
	}
	for _, a := range badAxes() {
		if s, e := mast.Cross(breeze(), a); s != only(0) || e != api.ErrAxis {
			t.Error(a, s, e)
		}
		for _, most := range []int{-1, 2000, 2001} {
			if is, e := mast.Calm(breeze(), a, most); is || e != api.ErrAxis {
				t.Error(a, is, e)
			}
		}
	}
	for _, most := range []int{-1, 2001, math.MinInt, math.MaxInt, 1 << 32} {
		if is, e := mast.Calm(breeze(), axis(3, 4), most); is || e != api.ErrArg {
			t.Error(most, is, e)
		}
	}
}

// partsOf returns the numbers |x * (the axis' Y) - y * (the axis' X)| of which the least and the greatest crosswind are made.
func partsOf(w api.Wind, a api.Axis) (least, greatest int) {
	var l []int
	for _, x := range []int{w.X.Lo, w.X.Hi} {
		for _, y := range []int{w.Y.Lo, w.Y.Hi} {
			l = append(l, x*a.Y-y*a.X)
		}
	}
	if slices.Min(l) <= 0 && slices.Max(l) >= 0 {
		return 0, max(-slices.Min(l), slices.Max(l))
	}
	for i, n := range l {
		l[i] = max(n, -n)
	}
	return slices.Min(l), slices.Max(l)
}

// compared returns how a number divided by the length of an axis compares to k.
func compared(n int, a api.Axis, k int) int {
	square := func(n int) *big.Int { return new(big.Int).Mul(big.NewInt(int64(n)), big.NewInt(int64(n))) }
	length := new(big.Int).Add(square(a.X), square(a.Y))
	return square(n).Cmp(length.Mul(length, square(k)))
}

func TestP7_1All(t *testing.T) {
	r := rand.New(rand.NewSource(71))
	for i := range 6000 {
		w, a := someWind(r, 9), someAxis(r, 4)
		if i%2 == 0 {
			w, a = someWind(r, 2000), someAxis(r, 1000)
		}
		least, greatest := partsOf(w, a)
		s, e := mast.Cross(w, a)
		if e != api.OK || s.Lo < 0 || compared(least, a, s.Lo) < 0 || compared(least, a, s.Lo+1) >= 0 ||
			compared(greatest, a, s.Hi) > 0 || s.Hi > 0 && compared(greatest, a, s.Hi-1) <= 0 {
			t.Fatal(w, a, s, e)
		}
		for most := max(0, s.Hi-2); most <= min(s.Hi+2, 2000); most++ {
			if is, e := mast.Calm(w, a, most); e != api.OK || is != (compared(greatest, a, most) <= 0) {
				t.Fatal(w, a, most, is, e)
			}
		}
	}
}

func TestP7_2Turn(t *testing.T) {
	// Nine axes, of which only a few are calm in a wind to the north.
	calmAt := func(axes int, calm ...int) []api.Axis {
		l := slices.Repeat([]api.Axis{axis(1, 0)}, axes)
		for _, i := range calm {
			l[i] = axis(0, 1)
		}
		return l
	}
	north := wind(only(0), only(10))
	for i, x := range []struct {
		axes            []api.Axis
		at              int
		w               api.Wind
		most, to, steps int
		e               api.Errno
	}{
		{threeAxes(), 0, breeze(), 25, 1, 1, api.OK},
		{threeAxes(), 0, breeze(), 39, 1, 1, api.OK},
		{threeAxes(), 0, breeze(), 40, 0, 0, api.OK},
		{threeAxes(), 0, breeze(), 24, 1, 1, api.OK},
		{threeAxes(), 0, breeze(), 23, 0, 0, api.ErrNone},
		{threeAxes(), 1, breeze(), 24, 1, 0, api.OK},
		{threeAxes(), 2, breeze(), 24, 1, 1, api.OK},
		{threeAxes(), 2, breeze(), 30, 2, 0, api.OK},
		{calmAt(9, 0), 0, north, 9, 0, 0, api.OK},
		{calmAt(9, 4), 0, north, 9, 4, 4, api.OK},
		{calmAt(9, 5), 0, north, 9, 5, 4, api.OK},
		{calmAt(9, 4, 5), 0, north, 9, 4, 4, api.OK},
		{calmAt(9, 1, 8), 0, north, 9, 1, 1, api.OK},
		{calmAt(9, 2, 8), 0, north, 9, 8, 1, api.OK},
		{calmAt(9, 2, 7), 0, north, 9, 2, 2, api.OK},
		{calmAt(9, 2, 7), 8, north, 9, 7, 1, api.OK},
		{calmAt(9, 0, 7), 8, north, 9, 0, 1, api.OK},
		{calmAt(9, 1, 6), 8, north, 9, 1, 2, api.OK},
		{calmAt(9, 2, 4), 3, north, 9, 4, 1, api.OK},
		{calmAt(8, 4), 0, north, 9, 4, 4, api.OK},
		{calmAt(8, 0), 4, north, 9, 0, 4, api.OK},
		{calmAt(8, 3), 7, north, 9, 3, 4, api.OK},
		{calmAt(32, 0), 16, north, 0, 0, 16, api.OK},
		{calmAt(32, 31), 0, north, 0, 31, 1, api.OK},
		{calmAt(2, 1), 0, north, 0, 1, 1, api.OK},
		{calmAt(2, 0), 1, north, 0, 0, 1, api.OK},
		{calmAt(1, 0), 0, north, 0, 0, 0, api.OK},
		{calmAt(1), 0, north, 9, 0, 0, api.ErrNone},
		{calmAt(1), 0, north, 10, 0, 0, api.OK},
		{calmAt(32), 31, north, 9, 0, 0, api.ErrNone},
		{calmAt(32), 31, north, 2000, 31, 0, api.OK},
	} {
		if to, steps, e := mast.Turn(x.axes, x.at, x.w, x.most); to != x.to || steps != x.steps || e != x.e {
			t.Error(i, to, steps, e)
		}
	}
}

func TestP7_2Errors(t *testing.T) {
	bad := badWinds()[0]
	for i, x := range []struct {
		axes []api.Axis
		at   int
		w    api.Wind
		most int
		want api.Errno
	}{
		{nil, -1, bad, -1, api.ErrPort},
		{nil, 0, breeze(), 25, api.ErrPort},
		{slices.Repeat(threeAxes(), 11), 0, breeze(), 25, api.ErrPort},
		{append(threeAxes(), axis(0, 0)), 0, breeze(), 25, api.ErrPort},
		{append(threeAxes(), axis(0, 1001)), 7, bad, 2001, api.ErrPort},
		{[]api.Axis{axis(math.MinInt, 1)}, 0, breeze(), 25, api.ErrPort},
		{threeAxes(), 0, bad, 25, api.ErrBlow},
		{threeAxes(), 3, bad, 25, api.ErrBlow},
		{threeAxes(), 0, bad, 2001, api.ErrBlow},
		{threeAxes(), 3, breeze(), 25, api.ErrArg},
		{threeAxes(), -1, breeze(), 25, api.ErrArg},
		{threeAxes(), math.MaxInt, breeze(), 25, api.ErrArg},
		{threeAxes(), math.MinInt, breeze(), 25, api.ErrArg},
		{threeAxes(), 3, breeze(), 0, api.ErrArg},
		{threeAxes(), 0, breeze(), -1, api.ErrArg},
		{threeAxes(), 0, breeze(), 2001, api.ErrArg},
		{threeAxes(), 0, breeze(), math.MaxInt, api.ErrArg},
		{threeAxes(), 0, breeze(), math.MinInt, api.ErrArg},
		{threeAxes(), 0, breeze(), 0, api.ErrNone},
	} {
		if to, steps, e := mast.Turn(x.axes, x.at, x.w, x.most); to != 0 || steps != 0 || e != x.want {
			t.Error(i, to, steps, e, "want", x.want)
		}
	}
}

func TestP7_2All(t *testing.T) {
	r := rand.New(rand.NewSource(72))
	for range 5000 {
		axes, w, most := someAxes(r, 9), someWind(r, 20), r.Intn(25)
		at := r.Intn(len(axes))
		best, fewest := 0, len(axes)
		for ahead := range axes {
			i := (at + ahead) % len(axes)
			_, greatest := partsOf(w, axes[i])
			// Of those that come after at the nearest is met first; one before at has to be nearer.
			if steps := min(ahead, len(axes)-ahead); compared(greatest, axes[i], most) <= 0 && steps < fewest {
				best, fewest = i, steps
			}
		}
		to, steps, e := mast.Turn(axes, at, w, most)
		if fewest == len(axes) {
			if e != api.ErrNone || to != 0 || steps != 0 {
				t.Fatal(axes, at, w, most, to, steps, e)
			}
		} else if e != api.OK || to != best || steps != fewest {
			t.Fatal(axes, at, w, most, to, steps, e, "want", best, fewest)
		}
	}
}

func TestP7_7Cross(t *testing.T) {
	r := rand.New(rand.NewSource(77))
	const parts = 7
	for range 5000 {
		w, a := someWind(r, 60), someAxis(r, 9)
		s, e := mast.Cross(w, a)
		other, f := mast.Cross(w, axis(-a.X, -a.Y))
		if e != api.OK || f != api.OK || s != other {
			t.Fatal(w, a, s, other, e, f)
		}
		isLow, isHigh := false, s.Hi == 0
		for i := range (parts + 1) * (parts + 1) {
			// x and y are in sevenths.
			x := w.X.Lo*parts + i%(parts+1)*(w.X.Hi-w.X.Lo)
			y := w.Y.Lo*parts + i/(parts+1)*(w.Y.Hi-w.Y.Lo)
			n := x*a.Y - y*a.X
			if compared(n, a, s.Lo*parts) < 0 || compared(n, a, s.Hi*parts) > 0 {
				t.Fatal(w, a, s, x, y)
			}
			isLow = isLow || compared(n, a, (s.Lo+1)*parts) < 0
			isHigh = isHigh || compared(n, a, (s.Hi-1)*parts) > 0
		}
		// The least may be 0 between the points that are tried.
		least, _ := partsOf(w, a)
		if !isLow && least > 0 || !isHigh {
			t.Fatal("narrower", w, a, s)
		}
	}
}

func TestP7_7Calm(t *testing.T) {
	r := rand.New(rand.NewSource(78))
	for range 2000 {
		w, a := someWind(r, 40), someAxis(r, 5)
		s, _ := mast.Cross(w, a)
		before := false
		for most := range 70 {
			is, e := mast.Calm(w, a, most)
			other, f := mast.Calm(w, axis(-a.X, -a.Y), most)
			if e != api.OK || f != api.OK || is != other || before && !is || is != (most >= s.Hi) {
				t.Fatal(w, a, most, is, other, e, f)
			}
			before = is
		}
	}
}
