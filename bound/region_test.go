package bound_test

import (
	"math"
	"math/rand"
	"slices"
	"testing"

	"ballonet/api"
	"ballonet/bound"
)

const mostCorner, mostDir = api.MaxCorner, api.MaxDir

func corner(x, y int) api.Corner { return api.Corner{X: x, Y: y} }

func corners(n ...int) []api.Corner {
	var l []api.Corner
	for i := 0; i+1 < len(n); i += 2 {
		l = append(l, corner(n[i], n[i+1]))
	}
	return l
}

func square() []api.Corner { return corners(0, 0, 4, 0, 4, 4, 0, 4) }

// box is the region that has all corners that a region may have.
func box() []api.Corner {
	return corners(-mostCorner, -mostCorner, mostCorner, -mostCorner, mostCorner, mostCorner, -mostCorner, mostCorner)
}

// bowl returns a region of n corners, below a chord; those of tilt 0 and 1 have sides of different directions, but for the chord of n and that of n - 1.
func bowl(n, tilt int) []api.Corner {
	var l []api.Corner
	for i := range n {
		l = append(l, corner(i, i*i+tilt*i))
	}
	return l
}

func moved(l []api.Corner, x, y int) []api.Corner {
	m := slices.Clone(l)
	for i := range m {
		m[i].X += x
		m[i].Y += y
	}
	return m
}

func side(p, q, r api.Corner) int { return (q.X-p.X)*(r.Y-p.Y) - (q.Y-p.Y)*(r.X-p.X) }

// isRegion reports whether small corners are a region: the first one is least, and any three of them, in their order, turn left.
func isRegion(l []api.Corner) bool {
	if len(l) == 0 {
		return false
	}
	for _, c := range l[1:] {
		if c.X < l[0].X || c.X == l[0].X && c.Y <= l[0].Y {
			return false
		}
	}
	for i := range l {
		for j := range i {
			for k := range j {
				if side(l[k], l[j], l[i]) <= 0 {
					return false
				}
			}
		}
	}
	return true
}

func badRegions() [][]api.Corner {
	bad := [][]api.Corner{
		nil, {}, bowl(api.MaxCorners+1, 0), make([]api.Corner, 1000),
		corners(0, 0, 0, 0), corners(1, 0, 0, 0), corners(0, 1, 0, 0), corners(0, 0, 1, 1, 2, 2), corners(0, 0, 2, 0, 1, 0),
		corners(0, 0, 0, 4, 4, 4, 4, 0), corners(4, 0, 4, 4, 0, 4, 0, 0), corners(0, 4, 0, 0, 4, 0, 4, 4),
		corners(0, 0, 2, 0, 4, 0, 4, 4, 0, 4), corners(0, 0, 4, 0, 4, 4, 0, 4, 0, 2), corners(0, 0, 4, 0, 4, 4, 2, 3, 0, 4),
		corners(0, 0, 4, 0, 4, 4, 0, 4, 0, 0), corners(0, 0, 4, 4, 4, 0, 0, 4),
		// A star turns left at each corner, but goes round twice.
		corners(-10, 2, 10, 2, -6, -8, 0, 9, 6, -8),
	}
	for _, n := range []int{mostCorner + 1, -mostCorner - 1, math.MaxInt, math.MinInt} {
		bad = append(bad, corners(n, 0), corners(0, n), corners(min(n, 0), 0, max(n, 0), 1), corners(0, min(n, 0), 4, max(n, 0), 3, 9))
	}
	return bad
}

func TestP1_4CheckRegion(t *testing.T) {
	for i, l := range [][]api.Corner{
		corners(0, 0), corners(0, 0, 0, 1), corners(0, 0, 1, -9), square(), box(), bowl(api.MaxCorners, 0), bowl(3, 1),
		corners(mostCorner, mostCorner), corners(-mostCorner, -mostCorner, mostCorner, mostCorner), corners(-mostCorner, mostCorner, mostCorner, -mostCorner),
		// A sliver: the third corner is hardly off the line of the others.
		corners(-mostCorner, -mostCorner, mostCorner, mostCorner-1, mostCorner, mostCorner),
	} {
		if e := bound.CheckRegion(l); e != api.OK {
			t.Error(i, e)
		}
	}
	for i, l := range badRegions() {
		if e := bound.CheckRegion(l); e != api.ErrRegion {
			t.Error(i, e)
		}
	}
}

// tuples calls f with all lists of up to n points of a grid of 3 by 3.
func tuples(n int, f func(l []api.Corner)) {
	var more func(l []api.Corner)
	more = func(l []api.Corner) {
		f(l)
		if len(l) == n {
			return
		}
		for i := range 9 {
			more(append(l[:len(l):len(l)], corner(i/3, i%3)))
		}
	}
	more(nil)
}

// All short lists of a few points: those are regions, and no others; and a region is its own hull.
func TestP1_4CheckRegionAll(t *testing.T) {
	tuples(5, func(l []api.Corner) {
		want := api.ErrRegion
		if isRegion(l) {
			want = api.OK
		}
		if e := bound.CheckRegion(l); e != want {
			t.Error(l, e)
		}
		if want != api.OK {
			return
		}
		if h, e := bound.Hull(l); e != api.OK || !slices.Equal(h, l) {
			t.Error(l, h, e)
		}
	})
}

// R1 and R2: the errors of regions come first, and nothing is beside them.
func TestP1_4RegionErrors(t *testing.T) {
	for i, bad := range badRegions() {
		if is, e := bound.Inside(bad, corner(0, 0)); e != api.ErrRegion || is {
			t.Error(i, is, e)
		}
		for _, d := range []int{0, 1, mostDir + 1, math.MinInt} {
			if n, e := bound.Reach(bad, d, d); e != api.ErrRegion || n != 0 {
				t.Error(i, n, e)
			}
		}
		for _, pair := range [][2][]api.Corner{{bad, square()}, {square(), bad}, {bad, bad}, {box(), bad}, {bad, box()}, {bowl(64, 0), bad}} {
			if is, e := bound.Within(pair[0], pair[1]); e != api.ErrRegion || is {
				t.Error(i, is, e)
			}
			if l, e := bound.Sum(pair[0], pair[1]); e != api.ErrRegion || len(l) > 0 {
				t.Error(i, l, e)
			}
			for _, d := range []int{0, 1, mostDir + 1, math.MinInt} {
				if is, e := bound.Parts(pair[0], pair[1], d, -d); e != api.ErrRegion || is {
					t.Error(i, is, e)
				}
			}
			if dx, dy, e := bound.Apart(pair[0], pair[1]); e != api.ErrRegion || dx != 0 || dy != 0 {
				t.Error(i, dx, dy, e)
			}
		}
	}
}

func TestP1_4Hull(t *testing.T) {
	many := append(bowl(63, 0), corner(5, 60))
	for i, x := range []struct {
		points, want []api.Corner
		e            api.Errno
	}{
		{corners(2, 2, 0, 0, 4, 0, 2, 1, 0, 4, 4, 4, 2, 0), square(), api.OK},
		{corners(7, -7), corners(7, -7), api.OK},
		{corners(7, -7, 7, -7, 7, -7), corners(7, -7), api.OK},
		{corners(7, 7, 7, -7), corners(7, -7, 7, 7), api.OK},
		{corners(2, 2, 0, 0, 4, 4, 1, 1, 0, 0, 4, 4), corners(0, 0, 4, 4), api.OK},
		{corners(3, 0, 1, 0, 2, 0), corners(1, 0, 3, 0), api.OK},
		{corners(0, 4, 4, 4, 4, 0, 0, 0), square(), api.OK},
		{many, bowl(63, 0), api.OK},
		{bowl(64, 0), bowl(64, 0), api.OK},
		{make([]api.Corner, api.MaxPoints), corners(0, 0), api.OK},
		{append(corners(0, 0, mostCorner, 5), box()...), box(), api.OK},
		{make([]api.Corner, api.MaxPoints+1), nil, api.ErrMany},
		{bowl(65, 0), nil, api.ErrMany},
		// ErrMany comes before ErrArg.
		{append(bowl(64, 0), corner(mostCorner+1, 0)), nil, api.ErrMany},
		{nil, nil, api.ErrArg},
		{[]api.Corner{}, nil, api.ErrArg},
		{corners(0, 0, mostCorner+1, 0), nil, api.ErrArg},
		{corners(0, 0, -mostCorner-1, 0), nil, api.ErrArg},
		{corners(0, mostCorner+1, 0, 0), nil, api.ErrArg},
		{corners(0, -mostCorner-1), nil, api.ErrArg},
		{corners(0, 0, math.MinInt, math.MaxInt), nil, api.ErrArg},
		{corners(0, 0, math.MaxInt, math.MinInt, 3, 3), nil, api.ErrArg},
	} {
		if l, e := bound.Hull(x.points); !slices.Equal(l, x.want) || e != x.e {
			t.Error(i, l, e)
		}
	}
}

// holdsZero reports whether the least convex set that holds some points holds (0, 0): then a point, a segment or a triangle of them does.
func holdsZero(l []api.Corner) bool {
	cross := func(u, v api.Corner) int { return u.X*v.Y - u.Y*v.X }
	for i, u := range l {
		if u == corner(0, 0) {
			return true
		}
		for j, v := range l[:i] {
			if cross(u, v) == 0 && u.X*v.X+u.Y*v.Y <= 0 {
				return true
			}
			for _, w := range l[:j] {
				a, b, c := cross(u, v), cross(v, w), cross(w, u)
				if side(u, v, w) != 0 && (a >= 0 && b >= 0 && c >= 0 || a <= 0 && b <= 0 && c <= 0) {
					return true
				}
			}
		}
	}
	return false
}

// meets reports whether two regions have a point in common.
func meets(a, b []api.Corner) bool {
	var l []api.Corner
	for _, p := range a {
		for _, q := range b {
			l = append(l, corner(q.X-p.X, q.Y-p.Y))
		}
	}
	return holdsZero(l)
}

// somePoints returns up to n points whose X and Y are at most reach.
func somePoints(r *rand.Rand, n, reach int) []api.Corner {
	var l []api.Corner
	for range 1 + r.Intn(n) {
		l = append(l, corner(r.Intn(2*reach+1)-reach, r.Intn(2*reach+1)-reach))
	}
	if len(l) > 2 && r.Intn(4) == 0 { // all on a line, as far as they stay within reach
		for i := range l[2:] {
			k := r.Intn(5) - 2
			p := corner(l[0].X+k*(l[1].X-l[0].X), l[0].Y+k*(l[1].Y-l[0].Y))
			if max(p.X, -p.X, p.Y, -p.Y) > reach {
				p = l[0]
			}
			l[2+i] = p
		}
	}
	return l
}

func someRegion(t *testing.T, r *rand.Rand, n, reach int) []api.Corner {
	t.Helper()
	l, e := bound.Hull(somePoints(r, n, reach))
	if e != api.OK {
		t.Fatal(e)
	}
	return l
}

func TestP1_4Inside(t *testing.T) {
	kite := corners(0, 0, 5, -1, 5, 6, 0, 3)
	for i, x := range []struct {
		r    []api.Corner
		p    api.Corner
		want bool
	}{
		{square(), corner(2, 4), true},
		{square(), corner(5, 2), false},
		{square(), corner(0, 0), true},
		{square(), corner(4, 4), true},
		{square(), corner(2, 2), true},
		{square(), corner(2, -1), false},
		{square(), corner(2, 5), false},
		{square(), corner(-1, 2), false},
		{kite, corner(1, 0), true},
		{kite, corner(1, -1), false},
		{kite, corner(4, 5), true},
		{kite, corner(4, 6), false},
		{corners(0, 0, 4, 2), corner(2, 1), true},
		{corners(0, 0, 4, 2), corner(1, 1), false},
		{corners(0, 0, 4, 2), corner(6, 3), false},
		{corners(0, 0, 4, 2), corner(-2, -1), false},
		{corners(0, 0, 0, 4), corner(0, 3), true},
		{corners(0, 0, 0, 4), corner(0, 5), false},
		{corners(3, 3), corner(3, 3), true},
		{corners(3, 3), corner(3, 2), false},
		{corners(3, 3), corner(2, 3), false},
		{box(), corner(mostCorner, -mostCorner), true},
		{box(), corner(mostCorner+1, 0), false},
		{box(), corner(0, -mostCorner-1), false},
	} {
		if is, e := bound.Inside(x.r, x.p); is != x.want || e != api.OK {
			t.Error(i, is, e)
		}
	}
	far := []int{math.MinInt, math.MinInt + 1, -1 << 62, -1 << 33, 1 << 33, 1 << 62, math.MaxInt}
	for _, r := range [][]api.Corner{square(), kite, box(), corners(0, 0, 4, 2), corners(0, 0), corners(-mostCorner, -mostCorner, mostCorner, mostCorner)} {
		for _, n := range far {
			for _, m := range append(far, 0) {
				for _, p := range []api.Corner{corner(n, m), corner(m, n)} {
					if is, e := bound.Inside(r, p); is || e != api.OK {
						t.Error(r, p, is, e)
					}
				}
			}
		}
	}
}

func TestP1_4InsideAll(t *testing.T) {
	r := rand.New(rand.NewSource(6))
	for range 1500 {
		l := someRegion(t, r, 8, 4)
		for x := -5; x <= 5; x++ {
			for y := -5; y <= 5; y++ {
				want := holdsZero(moved(l, -x, -y))
				if is, e := bound.Inside(l, corner(x, y)); is != want || e != api.OK {
					t.Fatal(l, x, y, is, e)
				}
			}
		}
	}
}

func TestP1_4Within(t *testing.T) {
	for i, x := range []struct {
		a, b []api.Corner
		want bool
	}{
		{square(), square(), true},
		{square(), box(), true},
		{box(), square(), false},
		{corners(0, 2, 2, 0, 4, 2, 2, 4), square(), true},
		{corners(0, 2, 2, -1, 4, 2, 2, 4), square(), false},
		{corners(0, 0, 4, 4), square(), true},
		{corners(0, 0, 4, 5), square(), false},
		{square(), corners(0, 0, 4, 4), false},
		{corners(1, 1, 2, 2), corners(0, 0, 4, 4), true},
		{corners(1, 1, 5, 5), corners(0, 0, 4, 4), false},
		{corners(1, 1), corners(1, 1), true},
		{corners(1, 1, 2, 2), corners(1, 1), false},
		{corners(5, 2), square(), false},
		{box(), box(), true},
	} {
		if is, e := bound.Within(x.a, x.b); is != x.want || e != api.OK {
			t.Error(i, is, e)
		}
	}
}

func TestP1_5Reach(t *testing.T) {
	for i, x := range []struct {
		r            []api.Corner
		dx, dy, want int
		e            api.Errno
	}{
		{square(), 1, -2, 4, api.OK},
		{square(), 0, 0, 0, api.OK},
		{square(), -1, -1, 0, api.OK},
		{square(), 3, 2, 20, api.OK},
		{corners(-3, 5), 2, 7, 29, api.OK},
		{corners(-3, -5), 2, 7, -41, api.OK},
		{corners(1, 1, 3, 2), -1, 1, 0, api.OK},
		{box(), mostDir, mostDir, 1 << 59, api.OK},
		{box(), -mostDir, mostDir, 1 << 59, api.OK},
		{corners(-mostCorner, -mostCorner), mostDir, mostDir, -1 << 59, api.OK},
		{square(), mostDir + 1, 0, 0, api.ErrArg},
		{square(), -mostDir - 1, 0, 0, api.ErrArg},
		{square(), 0, mostDir + 1, 0, api.ErrArg},
		{square(), 0, -mostDir - 1, 0, api.ErrArg},
		{square(), math.MinInt, math.MaxInt, 0, api.ErrArg},
		{square(), math.MaxInt, math.MinInt, 0, api.ErrArg},
	} {
		if n, e := bound.Reach(x.r, x.dx, x.dy); n != x.want || e != x.e {
			t.Error(i, n, e)
		}
	}
}

func TestP1_5Sum(t *testing.T) {
	for i, x := range []struct {
		a, b, want []api.Corner
		e          api.Errno
	}{
		{corners(0, 0, 2, 1), corners(0, 0, 0, 3), corners(0, 0, 2, 1, 2, 4, 0, 3), api.OK},
		{corners(1, 2), corners(-5, 9), corners(-4, 11), api.OK},
		{square(), corners(1, 1), corners(1, 1, 5, 1, 5, 5, 1, 5), api.OK},
		{corners(0, 0, 2, 2), corners(0, 0, 3, 3), corners(0, 0, 5, 5), api.OK},
		{square(), corners(0, 0, 3, 0), corners(0, 0, 7, 0, 7, 4, 0, 4), api.OK},
		{square(), corners(0, 2, 2, 0, 4, 2, 2, 4), corners(0, 2, 2, 0, 6, 0, 8, 2, 8, 6, 6, 8, 2, 8, 0, 6), api.OK},
		{corners(mostCorner-4, 0), square(), corners(mostCorner-4, 0, mostCorner, 0, mostCorner, 4, mostCorner-4, 4), api.OK},
		{corners(-mostCorner, -mostCorner), square(), moved(square(), -mostCorner, -mostCorner), api.OK},
		{corners(mostCorner-3, 0), square(), nil, api.ErrLarge},
		{corners(0, mostCorner-3), square(), nil, api.ErrLarge},
		{corners(-mostCorner, 0), corners(-1, 0, 1, 0), nil, api.ErrLarge},
		{corners(0, -mostCorner), corners(0, -1, 1, 0), nil, api.ErrLarge},
		{box(), box(), nil, api.ErrLarge},
		{bowl(64, 0), corners(5, 5), moved(bowl(64, 0), 5, 5), api.OK},
		// Sides: 31 and 31, and two chords.
		{bowl(32, 0), bowl(32, 1), nil, api.OK},
		// Sides: 31 and 32, and two chords: one too many.
		{bowl(32, 0), bowl(33, 1), nil, api.ErrMany},
		{bowl(64, 0), bowl(64, 1), nil, api.ErrMany},
		{bowl(64, 0), corners(0, 0, 1, 0), nil, api.ErrMany},
		// ErrLarge comes before ErrMany.
		{moved(bowl(32, 0), mostCorner-62, 0), bowl(33, 1), nil, api.ErrLarge},
	} {
		l, e := bound.Sum(x.a, x.b)
		m, f := bound.Sum(x.b, x.a)
		if e != x.e || f != x.e || !slices.Equal(l, m) {
			t.Error(i, l, m, e, f)
		}
		if (x.want != nil || e != api.OK) && !slices.Equal(l, x.want) {
			t.Error(i, l)
		}
		if x.want == nil && e == api.OK && len(l) != api.MaxCorners {
			t.Error(i, len(l))
		}
	}
}

func TestP1_5Parts(t *testing.T) {
	spot := corners(5, 2)
	for i, x := range []struct {
		a, b   []api.Corner
		dx, dy int
		want   bool
		e      api.Errno
	}{
		{square(), spot, 1, 0, true, api.OK},
		{square(), spot, 0, 1, false, api.OK},
		{square(), spot, -1, 0, false, api.OK},
		{square(), spot, 0, 0, false, api.OK},
		{spot, square(), -1, 0, true, api.OK},
		{spot, square(), 1, 0, false, api.OK},
		{square(), corners(4, 2), 1, 0, false, api.OK},
		{square(), spot, mostDir, 0, true, api.OK},
		{square(), spot, mostDir, -mostDir, false, api.OK},
		{corners(-mostCorner, -mostCorner), corners(mostCorner, mostCorner), mostDir, mostDir, true, api.OK},
		{square(), spot, mostDir + 1, 0, false, api.ErrArg},
		{square(), spot, -mostDir - 1, 0, false, api.ErrArg},
		{square(), spot, 0, mostDir + 1, false, api.ErrArg},
		{square(), spot, 0, -mostDir - 1, false, api.ErrArg},
		{square(), spot, math.MinInt, math.MinInt, false, api.ErrArg},
		{square(), spot, math.MaxInt, 1, false, api.ErrArg},
	} {
		if is, e := bound.Parts(x.a, x.b, x.dx, x.dy); is != x.want || e != x.e {
			t.Error(i, is, e)
		}
	}
}

// checkApart checks that Apart does what it has to do for two regions, either way.
func checkApart(t *testing.T, a, b []api.Corner, common bool) {
	t.Helper()
	for _, pair := range [][2][]api.Corner{{a, b}, {b, a}} {
		dx, dy, e := bound.Apart(pair[0], pair[1])
		if common {
			if e != api.ErrNone || dx != 0 || dy != 0 {
				t.Fatal(pair, dx, dy, e)
			}
			continue
		}
		is, f := bound.Parts(pair[0], pair[1], dx, dy)
		if e != api.OK || f != api.OK || !is {
			t.Fatal(pair, dx, dy, e, is, f)
		}
	}
}

func TestP1_5Apart(t *testing.T) {
	const m = mostCorner
	long := corners(-m, -m, m, m-1)
	for i, x := range []struct {
		a, b   []api.Corner
		common bool
	}{
		{square(), corners(5, 2), false},
		{square(), corners(4, 2), true},
		{square(), corners(2, 2), true},
		{square(), box(), true},
		{square(), corners(4, 5, 5, 4), false},
		{square(), corners(3, 5, 5, 3), true},
		{square(), corners(4, 4, 9, 9), true},
		{corners(1, 1), corners(1, 1), true},
		{corners(1, 1), corners(1, 2), false},
		{corners(-m, -m), corners(m, m), false},
		{corners(-m, m), corners(m, -m), false},
		// On one line, and across.
		{corners(0, 0, 2, 2), corners(3, 3, 5, 5), false},
		{corners(0, 0, 3, 3), corners(3, 3, 5, 5), true},
		{corners(0, 0, 3, 3), corners(1, 1, 2, 2), true},
		{corners(0, 0, 3, 3), corners(4, 4), false},
		{corners(0, 0, 3, 3), corners(0, 1, 3, 4), false},
		{corners(0, 0, 4, 4), corners(0, 4, 4, 0), true},
		{corners(0, 0, 4, 4), corners(0, 4, 2, 3), false},
		// The point is half a step off the line.
		{long, corners(0, 0), false},
		{corners(-m, -m, m, m), corners(0, 0), true},
		{corners(-m, -m, m, m), long, true},
		{corners(-m, -m, m, m-1, m, m), corners(0, 0), true},
		{corners(-m, -m, m, m-1, m, m), corners(0, 1), false},
		{corners(-m, -m, -1, m), corners(0, -m, m, m), false},
		{corners(-m, -m, m, -m, -m, m), corners(0, 1, m, -m+1, m, m), false},
	} {
		if meets(x.a, x.b) != x.common {
			t.Error(i)
		}
		checkApart(t, x.a, x.b, x.common)
	}
}

func TestP1_9(t *testing.T) {
	r := rand.New(rand.NewSource(7))
	for i := range 4000 {
		reach := []int{2, 6, 40, mostCorner}[i%4]
		points := somePoints(r, api.MaxPoints, reach)
		if i%2 == 0 {
			points = somePoints(r, 6, reach)
		}
		h, e := bound.Hull(points)
		if e != api.OK || bound.CheckRegion(h) != api.OK {
			t.Fatal(points, h, e)
		}
		for _, p := range points {
			if is, e := bound.Inside(h, p); !is || e != api.OK {
				t.Fatal(points, h, p, e)
			}
		}
		for _, c := range h {
			if !slices.Contains(points, c) {
				t.Fatal(points, h, c)
			}
		}
		if again, e := bound.Hull(h); e != api.OK || !slices.Equal(again, h) {
			t.Fatal(h, again, e)
		}
		r.Shuffle(len(points), func(i, k int) { points[i], points[k] = points[k], points[i] })
		if again, e := bound.Hull(points); e != api.OK || !slices.Equal(again, h) {
			t.Fatal(h, again, e)
		}
		wide := someRegion(t, r, 6, reach)
		all := true
		for _, p := range points {
			is, _ := bound.Inside(wide, p)
			all = all && is
		}
		if is, e := bound.Within(h, wide); is != all || e != api.OK {
			t.Fatal(points, wide, is, all, e)
		}
	}
}

func TestP1_10Sum(t *testing.T) {
	r := rand.New(rand.NewSource(8))
	for i := range 2000 {
		size := []int{2, 6, 40, mostCorner / 2}[i%4]
		a, b := someRegion(t, r, 12, size), someRegion(t, r, 12, size)
		s, e := bound.Sum(a, b)
		if e != api.OK || bound.CheckRegion(s) != api.OK {
			t.Fatal(a, b, s, e)
		}
		for _, p := range a {
			for _, q := range b {
				if is, e := bound.Inside(s, corner(p.X+q.X, p.Y+q.Y)); !is || e != api.OK {
					t.Fatal(a, b, p, q, e)
				}
			}
		}
		for k := range 20 {
			most := []int{1, 7, mostDir}[k%3]
			dx, dy := r.Intn(2*most+1)-most, r.Intn(2*most+1)-most
			l, e := bound.Reach(a, dx, dy)
			m, f := bound.Reach(b, dx, dy)
			n, g := bound.Reach(s, dx, dy)
			if l+m != n || e != api.OK || f != api.OK || g != api.OK {
				t.Fatal(a, b, dx, dy, l, m, n)
			}
		}
	}
}

func TestP1_10Apart(t *testing.T) {
	r := rand.New(rand.NewSource(9))
	common := 0
	for i := range 4000 {
		size := []int{1, 2, 6, mostCorner / 2}[i%4]
		a, b := someRegion(t, r, 7, size), someRegion(t, r, 7, size)
		b = moved(b, r.Intn(2*size+1)-size, r.Intn(2*size+1)-size)
		is := meets(a, b)
		if is {
			common++
		}
		checkApart(t, a, b, is)
		for range 5 {
			dx, dy := r.Intn(2*mostDir+1)-mostDir, r.Intn(2*mostDir+1)-mostDir
			if parts, e := bound.Parts(a, b, dx, dy); e != api.OK || parts && is {
				t.Fatal(a, b, dx, dy, e)
			}
		}
	}
	if common < 500 || common > 3500 {
		t.Error("one kind of pairs is rare:", common)
	}
}
