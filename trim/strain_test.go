package trim_test

import (
	"math/rand"
	"slices"
	"testing"

	"ballonet/api"
	"ballonet/trim"
)

func frame(at, shear, bend int) api.Frame { return api.Frame{At: at, Shear: shear, Bend: bend} }

// someFrames returns n frames which the loads of someLoads strain, or not.
func someFrames(r *rand.Rand, n int) []api.Frame {
	l := make([]api.Frame, n)
	for i := range l {
		l[i] = frame(r.Intn(21)-10, r.Intn(40), r.Intn(150))
	}
	return l
}

func TestP4_1CheckFrames(t *testing.T) {
	good := []api.Frame{
		{}, frame(-api.MaxStation, 0, 0), frame(api.MaxStation, api.MaxShear, api.MaxBend), frame(0, 0, 1), frame(0, 1, 0),
	}
	lists(t, trim.CheckFrames, good, badFrames(), 12, api.ErrFrame)
}

func badFrames() []api.Frame {
	var bad []api.Frame
	for _, n := range beyond(-api.MaxStation, api.MaxStation) {
		bad = append(bad, frame(n, 5, 5))
	}
	for _, n := range beyond(0, api.MaxShear) {
		bad = append(bad, frame(5, n, 5))
	}
	for _, n := range beyond(0, api.MaxBend) {
		bad = append(bad, frame(5, 5, n))
	}
	return bad
}

func TestP4_3Errors(t *testing.T) {
	for _, at := range beyond(-api.MaxStation, api.MaxStation) {
		for _, l := range [][]api.Load{nil, plain()} {
			if s, e := trim.Shear(l, at); e != api.ErrArg || s != only(0) {
				t.Error(at, s, e)
			}
			if s, e := trim.Bend(l, at); e != api.ErrArg || s != only(0) {
				t.Error(at, s, e)
			}
		}
	}
	for _, f := range badFrames() {
		// The first frame is strained.
		if l, e := trim.Strained(plain(), []api.Frame{frame(10, 0, 0), f}); e != api.ErrFrame || len(l) > 0 {
			t.Error(f, l, e)
		}
	}
	if l, e := trim.Strained(plain(), slices.Repeat(badFrames()[:1], 13)); e != api.ErrMany || len(l) > 0 {
		t.Error(l, e)
	}
}

func TestP4_3ShearAndBend(t *testing.T) {
	lift := []api.Load{load(span(-3, 2), span(-9, 5))}
	sure := []api.Load{load(span(-3, 2), span(4, 5))}
	for i, x := range []struct {
		l           []api.Load
		at          int
		shear, bend api.Span
	}{
		{plain(), -10, only(0), only(0)},
		{plain(), -9, only(100), only(100)},
		{plain(), 10, only(100), only(2000)},
		{plain(), 11, span(-20, 10), span(1980, 2010)},
		{plain(), -api.MaxStation, only(0), only(0)},
		{plain(), api.MaxStation, span(-20, 10), span(2200-20*20000, 1900+10*20000)},
		{walker(), 0, span(0, 8), span(0, 800)},
		{walker(), -100, only(0), only(0)},
		{walker(), -99, span(0, 8), span(0, 8)},
		{walker(), 50, span(0, 8), span(0, 1200)},
		{walker(), 51, only(8), span(8, 1208)},
		{nil, 0, only(0), only(0)},
		{lift, -3, only(0), only(0)},
		{lift, -2, span(-9, 5), span(-9, 5)},
		{lift, 2, span(-9, 5), span(-45, 25)},
		{lift, 3, span(-9, 5), span(-54, 30)},
		{sure, 2, span(0, 5), span(0, 25)},
		{sure, 3, span(4, 5), span(4, 30)},
		{[]api.Load{load(span(-3, 2), span(-5, -4))}, 2, span(-5, 0), span(-25, 0)},
		{[]api.Load{load(span(-3, 2), span(-5, -4))}, 3, span(-5, -4), span(-30, -4)},
	} {
		if s, e := trim.Shear(x.l, x.at); s != x.shear || e != api.OK {
			t.Error("shear", i, s, e, "want", x.shear)
		}
		if s, e := trim.Bend(x.l, x.at); s != x.bend || e != api.OK {
			t.Error("bending", i, s, e, "want", x.bend)
		}
	}
}

func TestP4_3Largest(t *testing.T) {
	far := load(only(-api.MaxStation), span(-api.MaxWeight, api.MaxWeight))
	l := slices.Repeat([]api.Load{far}, api.MaxLoads)
	shear, bend := 40*api.MaxWeight, 40*api.MaxWeight*40000
	if s, e := trim.Shear(l, api.MaxStation); s != span(-shear, shear) || e != api.OK {
		t.Error(s, e)
	}
	if s, e := trim.Bend(l, api.MaxStation); s != span(-bend, bend) || e != api.OK {
		t.Error(s, e)
	}
	if n, e := trim.Strained(l, []api.Frame{frame(api.MaxStation, shear, bend), frame(api.MaxStation, shear-1, bend), frame(api.MaxStation, shear, bend-1)}); !slices.Equal(n, []int{1, 2}) || e != api.OK {
		t.Error(n, e)
	}
}

func TestP4_3Strained(t *testing.T) {
	lifted := []api.Load{load(only(-1), span(-9, 4))}
	for i, x := range []struct {
		l      []api.Load
		frames []api.Frame
		want   []int
	}{
		{plain(), nil, nil},
		{nil, []api.Frame{{}}, nil},
		{plain(), []api.Frame{frame(-10, 0, 0)}, nil},
		{plain(), []api.Frame{frame(10, 100, 2000), frame(10, 99, 2000), frame(10, 100, 1999), frame(10, 0, 0)}, []int{1, 2, 3}},
		{plain(), []api.Frame{frame(10, 0, 0), frame(-10, 0, 0), frame(11, 20, 2010), frame(11, 19, 2010)}, []int{0, 3}},
		{walker(), []api.Frame{frame(0, 8, 800), frame(0, 7, 800), frame(0, 8, 799), frame(51, 8, 1208)}, []int{1, 2}},
		// To either side.
		{lifted, []api.Frame{frame(0, 9, 9), frame(0, 8, 9), frame(0, 9, 8), frame(0, 4, 9)}, []int{1, 2, 3}},
		{[]api.Load{load(only(-1), span(-4, 9))}, []api.Frame{frame(0, 9, 9), frame(0, 8, 9), frame(0, 9, 8)}, []int{1, 2}},
	} {
		if l, e := trim.Strained(x.l, x.frames); !slices.Equal(l, x.want) || e != api.OK {
			t.Error(i, l, e, "want", x.want)
		}
	}
}

// shearOf returns the shear of a choice at a place, as the chapter tells it.
func shearOf(c []api.Put, at int) int {
	n := 0
	for _, p := range c {
		if p.At < at {
			n += p.Weight
		}
	}
	return n
}

// bendOf returns the bending of a choice at a place, as the chapter tells it.
func bendOf(c []api.Put, at int) int {
	n := 0
	for _, p := range c {
		if p.At < at {
			n += p.Weight * (at - p.At)
		}
	}
	return n
}

// P4.6: the ends are those of choices, and no choice goes beyond; and a frame is strained if a choice strains it.
func TestP4_6Strain(t *testing.T) {
	r := rand.New(rand.NewSource(11))
	strained := 0
	for range 1500 {
		l, frames := someLoads(r, 3, 4), someFrames(r, 4)
		var want []int
		for i, f := range frames {
			shear := ends(l, func(c []api.Put) int { return shearOf(c, f.At) })
			bend := ends(l, func(c []api.Put) int { return bendOf(c, f.At) })
			if s, e := trim.Shear(l, f.At); s != shear || e != api.OK {
				t.Fatal("shear", l, f.At, s, e, "want", shear)
			}
			if s, e := trim.Bend(l, f.At); s != bend || e != api.OK {
				t.Fatal("bending", l, f.At, s, e, "want", bend)
			}
			if shear.Hi > f.Shear || shear.Lo < -f.Shear || bend.Hi > f.Bend || bend.Lo < -f.Bend {
				want = append(want, i)
			}
		}
		if n, e := trim.Strained(l, frames); !slices.Equal(n, want) || e != api.OK {
			t.Fatal(l, frames, n, e, "want", want)
		}
		strained += len(want)
	}
	if strained < 500 || strained > 5500 {
		t.Error("hardly anything is strained, or is not:", strained)
	}
}

// P4.8: far to the bow the shear is the heaviness, and bending grows by it from place to place.
func TestP4_8Bow(t *testing.T) {
	r := rand.New(rand.NewSource(12))
	for range 500 {
		l := someLoads(r, 6, 8)
		heavy, _, _ := trim.Balance(l)
		for _, at := range []int{6, 7, 100, 5000, api.MaxStation - 1} {
			if s, e := trim.Shear(l, at); s != heavy || e != api.OK {
				t.Fatal(l, at, s, e, "want", heavy)
			}
			// Where the places are known the ends of the bending grow by those of the heaviness.
			known := slices.Clone(l)
			for i := range known {
				known[i].At.Lo = known[i].At.Hi
			}
			here, _ := trim.Bend(known, at)
			next, e := trim.Bend(known, at+1)
			if next != span(here.Lo+heavy.Lo, here.Hi+heavy.Hi) || e != api.OK {
				t.Fatal(l, at, here, next, e)
			}
			c := worst(l, limit(1, 1, 0))
			if bendOf(c, at+1)-bendOf(c, at) != shearOf(c, at+1) {
				t.Fatal(c, at)
			}
		}
	}
}

// P4.8: what strains a frame strains one that bears less.
func TestP4_8Less(t *testing.T) {
	r := rand.New(rand.NewSource(13))
	strained := 0
	for range 1000 {
		l, frames := someLoads(r, 5, 5), someFrames(r, 6)
		weaker := slices.Clone(frames)
		for i, f := range frames {
			weaker[i] = frame(f.At, r.Intn(f.Shear+1), r.Intn(f.Bend+1))
		}
		some, _ := trim.Strained(l, frames)
		more, e := trim.Strained(l, weaker)
		for _, i := range some {
			if !slices.Contains(more, i) || e != api.OK {
				t.Fatal(l, frames, weaker, some, more, e)
			}
		}
		strained += len(some)
	}
	if strained < 300 {
		t.Error("hardly anything is strained:", strained)
	}
}
