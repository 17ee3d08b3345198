package mast_test

import (
	"math"
	"math/big"
	"math/rand"
	"slices"
	"testing"

	"ballonet/api"
	"ballonet/mast"
)

// upTo returns pulls from 0 up to some numbers.
func upTo(l ...int) []api.Span {
	var pulls []api.Span
	for _, n := range l {
		pulls = append(pulls, span(0, n))
	}
	return pulls
}

func TestP7_3Man(t *testing.T) {
	for i, x := range []struct {
		pulls        []api.Span
		people, most int
		want         []int
		e            api.Errno
	}{
		{threePulls(), 10, 100, []int{4, 6, 0}, api.OK},
		{threePulls(), 8, 100, []int{3, 5, 0}, api.OK},
		{threePulls(), 9, 100, []int{4, 5, 0}, api.OK},
		{threePulls(), 7, 100, nil, api.ErrFew},
		{threePulls(), 0, 100, nil, api.ErrFew},
		// Of lines that pull as hard at each of their people the first one is helped.
		{upTo(300, 300, 300), 10, 100, []int{4, 3, 3}, api.OK},
		{upTo(300, 300, 300), 11, 100, []int{4, 4, 3}, api.OK},
		{upTo(300, 300, 300), 12, 100, []int{4, 4, 4}, api.OK},
		{upTo(200, 300, 100), 7, 100, []int{3, 3, 1}, api.OK},
		{upTo(200, 300, 100), 8, 100, []int{3, 4, 1}, api.OK},
		{upTo(200, 300, 100), 9, 100, []int{3, 4, 2}, api.OK},
		// A line that pulls less needs one all the same, and is helped later.
		{upTo(1, 100), 2, 100, []int{1, 1}, api.OK},
		{upTo(1, 100), 101, 100, []int{1, 100}, api.OK},
		{upTo(1, 100), 102, 100, []int{2, 100}, api.OK},
		{upTo(100, 1), 101, 100, []int{100, 1}, api.OK},
		{upTo(100, 1), 102, 100, []int{101, 1}, api.OK},
		{upTo(99), 1, 100, []int{1}, api.OK},
		{upTo(100), 1, 100, []int{1}, api.OK},
		{upTo(101), 1, 100, nil, api.ErrFew},
		{upTo(101), 2, 100, []int{2}, api.OK},
		// 10 of 7 and 7 of 5 are next to each other.
		{upTo(10, 7), 13, 2, []int{8, 5}, api.OK},
		{upTo(7, 10), 13, 2, []int{5, 8}, api.OK},
		// Who would hold nothing stays away.
		{upTo(0, 0), 5, 100, []int{0, 0}, api.OK},
		{upTo(0, 1, 0), 5, 100, []int{0, 5, 0}, api.OK},
		{nil, 5, 100, nil, api.OK},
		{nil, 0, 1, nil, api.OK},
		{upTo(0), 0, 1, []int{0}, api.OK},
		// The limits.
		{upTo(0, 0, 0, 0, 0, 0, 0, 1000000), 200, 1000000, []int{0, 0, 0, 0, 0, 0, 0, 200}, api.OK},
		{upTo(1000000), 200, 5000, []int{200}, api.OK},
		{upTo(1000000), 200, 4999, nil, api.ErrFew},
		{slices.Repeat(upTo(1000000), 8), 200, 1, nil, api.ErrFew},
		{slices.Repeat(upTo(1000000), 8), 200, 40000, slices.Repeat([]int{25}, 8), api.OK},
		{slices.Repeat(upTo(1000000), 8), 199, 40000, nil, api.ErrFew},
		{[]api.Span{span(7, 7)}, 3, 3, []int{3}, api.OK},
	} {
		if l, e := mast.Man(x.pulls, x.people, x.most); !slices.Equal(l, x.want) || e != x.e {
			t.Error(i, l, e, "want", x.want, x.e)
		}
	}
}

func badPulls() [][]api.Span {
	return [][]api.Span{
		slices.Repeat(upTo(0), 9), {span(-1, 0)}, {span(1, 0)}, {span(0, 1000001)}, {only(-1)}, {span(0, 5), span(6, 5)},
		{span(math.MinInt, 0)}, {span(0, math.MaxInt)}, {only(math.MaxInt), only(math.MaxInt)}, {only(math.MinInt)}, {only(1 << 32)}, {only(1000001)},
	}
}

func TestP7_3Errors(t *testing.T) {
	for _, pulls := range badPulls() {
		for _, people := range []int{0, 200} {
			if l, e := mast.Man(pulls, people, 100); len(l) > 0 || e != api.ErrArg {
				t.Error(pulls, l, e)
			}
		}
	}
	for _, people := range []int{-1, 201, math.MinInt, math.MaxInt, 1 << 32} {
		if l, e := mast.Man(threePulls(), people, 100); len(l) > 0 || e != api.ErrArg {
			t.Error(people, l, e)
		}
	}
	for _, most := range []int{0, -1, 1000001, math.MinInt, math.MaxInt, 1 << 32} {
		for _, people := range []int{0, 200} {
			if l, e := mast.Man(threePulls(), people, most); len(l) > 0 || e != api.ErrArg {
				t.Error(most, l, e)
			}
		}
	}
}

// needed returns how many people a line needs: the fewest to whom it is at most most for each.
func needed(pull api.Span, most int) int {
	n := 0
	for n*most < pull.Hi {
		n++
	}
	return n
}

// shared returns how many people hold each line, as the chapter says it, and how many none.
func shared(pulls []api.Span, people, most int) (held []int, left int) {
	left = people
	for _, pull := range pulls {
		held = append(held, needed(pull, most))
		left -= needed(pull, most)
	}
	for ; left > 0; left-- {
		line, greatest := -1, new(big.Rat)
		for i, pull := range pulls {
			if pull.Hi == 0 {
				continue
			}
			if each := big.NewRat(int64(pull.Hi), int64(held[i])); each.Cmp(greatest) > 0 {
				line, greatest = i, each
			}
		}
		if line < 0 {
			break
		}
		held[line]++
	}
	return held, left
}

func TestP7_3All(t *testing.T) {
	r := rand.New(rand.NewSource(73))
	for range 5000 {
		pulls, people, most := somePulls(r, api.MaxRopes, 30), r.Intn(40), 1+r.Intn(20)
		want, left := shared(pulls, people, most)
		l, e := mast.Man(pulls, people, most)
		if left < 0 && (e != api.ErrFew || len(l) > 0) || left >= 0 && (e != api.OK || !slices.Equal(l, want)) {
			t.Fatal(pulls, people, most, l, e, "want", want, left)
		}
	}
}

// hardest returns the greatest part of a pull that a person holds, or nil if some line that pulls is held by nobody.
func hardest(pulls []api.Span, held []int) *big.Rat {
	most := new(big.Rat)
	for i, pull := range pulls {
		if pull.Hi == 0 {
			continue
		}
		if held[i] == 0 {
			return nil
		}
		if each := big.NewRat(int64(pull.Hi), int64(held[i])); each.Cmp(most) > 0 {
			most = each
		}
	}
	return most
}

// leastHardest returns the least greatest part of all ways to share some people.
func leastHardest(pulls []api.Span, people int) *big.Rat {
	var least *big.Rat
	held := make([]int, len(pulls))
	var share func(line, left int)
	share = func(line, left int) {
		if line == len(pulls) {
			if most := hardest(pulls, held); most != nil && (least == nil || most.Cmp(least) < 0) {
				least = most
			}
			return
		}
		for n := range left + 1 {
			held[line] = n
			share(line+1, left-n)
		}
	}
	share(0, people)
	return least
}

func TestP7_8(t *testing.T) {
	r := rand.New(rand.NewSource(78))
	manned := 0
	for range 4000 {
		pulls, people, most := somePulls(r, 4, 30), r.Intn(9), 1+r.Intn(20)
		held, e := mast.Man(pulls, people, most)
		least := leastHardest(pulls, people)
		if e != api.OK {
			// There are too few only if no way to share them is good enough.
			if e != api.ErrFew || least != nil && least.Cmp(big.NewRat(int64(most), 1)) <= 0 {
				t.Fatal(pulls, people, most, e, least)
			}
			continue
		}
		manned++
		part := hardest(pulls, held)
		if part == nil || part.Cmp(big.NewRat(int64(most), 1)) > 0 || part.Cmp(least) != 0 {
			t.Fatal(pulls, people, most, held, part, "want", least)
		}
	}
	if manned < 1000 {
		t.Error(manned)
	}
}

// Whoever holds the lines of a berth holds no more than is stated.
func TestN7People(t *testing.T) {
	r := rand.New(rand.NewSource(7))
	for range 300 {
		p := somePort(r)
		for _, b := range allBerths(p) {
			held, e := mast.Man(p.Pulls, b.Held, p.Most)
			if b.Held == 0 {
				continue
			}
			if part := hardest(p.Pulls, held); e != api.OK || part == nil || part.Cmp(big.NewRat(int64(p.Most), 1)) > 0 {
				t.Fatal(p, b, held, e)
			}
		}
	}
}
