package trim_test

import (
	"math/bits"
	"math/rand"
	"slices"
	"testing"

	"ballonet/api"
	"ballonet/trim"
)

// exact returns a put as a load.
func exact(p api.Put) api.Load { return load(only(p.At), only(p.Weight)) }

// ones returns n bags of 1 in the middle.
func ones(n int) []api.Put { return slices.Repeat([]api.Put{put(0, 1)}, n) }

func TestP4_4Examples(t *testing.T) {
	two := []api.Put{put(0, 6), put(20, 3)}
	for i, x := range []struct {
		l      []api.Load
		bags   []api.Put
		limits []api.Limit
		want   []int
		e      api.Errno
	}{
		{plain(), two, []api.Limit{limit(1, 0, 14)}, []int{0}, api.OK},
		{plain(), two, []api.Limit{limit(1, 0, 19)}, nil, api.OK},
		{plain(), two, []api.Limit{limit(1, 0, 18)}, []int{0}, api.OK},
		{plain(), two, []api.Limit{limit(1, 0, 13)}, []int{0}, api.OK},
		{plain(), two, []api.Limit{limit(1, 0, 12)}, []int{0, 1}, api.OK},
		{plain(), two, []api.Limit{limit(1, 0, 10)}, []int{0, 1}, api.OK},
		{plain(), two, []api.Limit{limit(1, 0, 9)}, nil, api.ErrNone},
		{plain(), two, nil, nil, api.OK},
		{plain(), nil, []api.Limit{limit(1, 0, 10)}, nil, api.OK},
		{plain(), nil, []api.Limit{limit(1, 0, 9)}, nil, api.ErrNone},
		{nil, nil, nil, nil, api.OK},
		{nil, nil, []api.Limit{{C: -1}}, nil, api.ErrNone},
		// The second one is needed, as the first one holds the bow down.
		{plain(), two, []api.Limit{limit(1, 0, 18), limit(0, 1, -1900)}, []int{1}, api.OK},
		// A limit that only bags keep.
		{nil, two, []api.Limit{limit(-1, 0, -9)}, nil, api.OK},
		{nil, two, []api.Limit{limit(-1, 0, -9), limit(1, 0, 8)}, nil, api.ErrNone},
		{nil, two, []api.Limit{limit(-1, 0, -3), limit(1, 0, 3)}, []int{0}, api.OK},
		{nil, two, []api.Limit{limit(-1, 0, -6), limit(1, 0, 6)}, []int{1}, api.OK},
		// Fewer bags come first, and then lower indices.
		{nil, []api.Put{put(0, 1), put(0, 2), put(0, 3), put(0, 5)}, []api.Limit{limit(1, 0, 6)}, []int{3}, api.OK},
		{nil, []api.Put{put(0, 1), put(0, 2), put(0, 3), put(0, 5)}, []api.Limit{limit(1, 0, 5)}, []int{0, 3}, api.OK},
		{nil, []api.Put{put(0, 4), put(0, 2), put(0, 3), put(0, 1), put(0, 4)}, []api.Limit{limit(1, 0, 7), limit(-1, 0, -7)}, []int{0, 2}, api.OK},
		{nil, ones(10), []api.Limit{limit(1, 0, 3)}, []int{0, 1, 2, 3, 4, 5, 6}, api.OK},
		{nil, ones(10), []api.Limit{limit(1, 0, 0)}, []int{0, 1, 2, 3, 4, 5, 6, 7, 8, 9}, api.OK},
	} {
		if l, e := trim.Drop(x.l, x.bags, x.limits); !slices.Equal(l, x.want) || e != x.e {
			t.Error(i, l, e, "want", x.want, x.e)
		}
	}
}

func TestP4_4Errors(t *testing.T) {
	bad := put(0, 0)
	for i, x := range []struct {
		loads int
		bags  []api.Put
		want  api.Errno
	}{
		{0, ones(10), api.OK},
		{0, ones(11), api.ErrMany},
		{30, ones(10), api.OK},
		{31, ones(10), api.ErrMany},
		{31, ones(9), api.OK},
		{40, ones(0), api.OK},
		{40, ones(1), api.ErrMany},
		{40, []api.Put{bad}, api.ErrMany},
		{0, slices.Repeat([]api.Put{bad}, 11), api.ErrMany},
		{0, slices.Repeat([]api.Put{bad}, 10), api.ErrLoad},
		{39, []api.Put{bad}, api.ErrLoad},
		{0, append(ones(9), bad), api.ErrLoad},
	} {
		// With C below 0 nothing does: this error is the last one.
		for _, c := range []int{0, -1} {
			want := x.want
			if want == api.OK && c < 0 {
				want = api.ErrNone
			}
			if l, e := trim.Drop(make([]api.Load, x.loads), x.bags, []api.Limit{limit(0, 0, c)}); e != want || len(l) > 0 {
				t.Error(i, l, e, "want", want)
			}
		}
	}
	var bags []api.Put
	for _, n := range beyond(-api.MaxStation, api.MaxStation) {
		bags = append(bags, put(n, 1))
	}
	for _, n := range append(beyond(1, api.MaxBag), -1) {
		bags = append(bags, put(0, n))
	}
	for _, b := range bags {
		if l, e := trim.Drop(nil, []api.Put{put(0, 1), b}, nil); e != api.ErrLoad || len(l) > 0 {
			t.Error(b, l, e)
		}
	}
	good := []api.Put{put(-api.MaxStation, 1), put(api.MaxStation, api.MaxBag)}
	if l, e := trim.Drop(nil, good, nil); e != api.OK || len(l) > 0 {
		t.Error(l, e)
	}
}

// dropped returns which bags have to be dropped, by trying all sets.
func dropped(l []api.Load, bags []api.Put, limits []api.Limit) (best []int, found bool) {
	for set := range 1 << len(bags) {
		if found && bits.OnesCount(uint(set)) > len(best) {
			continue
		}
		all, drop := slices.Clone(l), []int{}
		for i, b := range bags {
			if set>>i&1 == 1 {
				drop = append(drop, i)
			} else {
				all = append(all, exact(b))
			}
		}
		if !keepsAll(all, limits) {
			continue
		}
		if !found || len(drop) < len(best) || slices.Compare(drop, best) < 0 {
			best, found = drop, true
		}
	}
	return best, found
}

// P4.9: after what is told is dropped there is no breach, and no fewer bags do.
func TestP4_9Drop(t *testing.T) {
	r := rand.New(rand.NewSource(21))
	sizes := map[int]int{}
	for range 1500 {
		l, limits := someLoads(r, 2, 3), someLimits(r, 3)
		bags := make([]api.Put, r.Intn(7))
		for i := range bags {
			bags[i] = put(r.Intn(11)-5, 1+r.Intn(6))
		}
		want, found := dropped(l, bags, limits)
		got, e := trim.Drop(l, bags, limits)
		if !slices.Equal(got, want) || found != (e == api.OK) || !found && e != api.ErrNone {
			t.Fatal(l, bags, limits, got, e, "want", want)
		}
		if !found {
			sizes[-1]++
			continue
		}
		sizes[len(got)]++
		all := slices.Clone(l)
		for i, b := range bags {
			if !slices.Contains(got, i) {
				all = append(all, exact(b))
			}
		}
		if _, e := trim.Breach(all, limits); e != api.ErrNone {
			t.Fatal(l, bags, limits, got, e)
		}
	}
	if sizes[-1] < 50 || sizes[0] < 50 || sizes[1] < 50 || sizes[2] < 20 || sizes[3] < 10 {
		t.Error("hardly anything is dropped:", sizes)
	}
}

// P4.9: with no limits nothing is dropped.
func TestP4_9NoLimits(t *testing.T) {
	for n := range 11 {
		if l, e := trim.Drop(goodLoads(), ones(n), nil); e != api.OK || len(l) > 0 {
			t.Error(n, l, e)
		}
	}
}

// P4.4: nothing overflows with the largest loads, bags and limits.
func TestP4_4Largest(t *testing.T) {
	l := slices.Repeat([]api.Load{load(only(api.MaxStation), only(api.MaxWeight))}, 30)
	bags := slices.Repeat([]api.Put{put(api.MaxStation, api.MaxBag)}, 10)
	full := 1000 * (1 + api.MaxStation) * (30*api.MaxWeight + 10*api.MaxBag)
	one := 1000 * (1 + api.MaxStation) * api.MaxBag
	for n := range 12 {
		want, wantE := []int{0, 1, 2, 3, 4, 5, 6, 7, 8, 9}[:min(n, 10)], api.OK
		if n > 10 {
			want, wantE = nil, api.ErrNone
		}
		for _, c := range []int{full - n*one, full - n*one + one - 1} {
			if n == 0 && c != full {
				c = api.MaxSide
			}
			if got, e := trim.Drop(l, bags, []api.Limit{limit(1000, 1000, c)}); !slices.Equal(got, want) || e != wantE {
				t.Error(n, c, got, e)
			}
		}
	}
	if got, e := trim.Drop(l, bags, []api.Limit{limit(1000, 1000, -api.MaxSide)}); len(got) > 0 || e != api.ErrNone {
		t.Error(got, e)
	}
}
