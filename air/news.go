package air

import (
	"iter"

	"ballonet/api"
	"ballonet/bound"
)

// CheckNews returns an error unless reports are valid (P2.5).
func CheckNews(l []api.News) api.Errno {
	if len(l) > api.MaxNews {
		return api.ErrMany
	}
	for _, n := range l {
		if !isPost(n.Post) || !isKind(n.Kind) ||
			!inOrder(0, n.Seen, n.Came, api.MaxTime) ||
			!inOrder(-api.MaxPress, n.Val.Lo, n.Val.Hi, api.MaxPress) {
			return api.ErrNews
		}
	}
	return api.OK
}

func isPost(post int) bool { return inOrder(0, post, api.MaxPosts-1) }

func isKind(kind int) bool { return inOrder(api.NewsPress, kind, api.NewsNorth) }

// areRates reports whether rates are valid.
func areRates(r api.Rates) bool {
	return inOrder(0, r.Press, api.MaxRate) && inOrder(0, r.Temp, api.MaxRate) && inOrder(0, r.Wind, api.MaxRate)
}

// checkQuestion returns CheckNews' error, and then ErrArg unless the rates, the post, the kind and the times of a question are valid.
func checkQuestion(r api.Rates, l []api.News, post, kind int, times ...int) api.Errno {
	if e := CheckNews(l); e != api.OK {
		return e
	}
	if !areRates(r) || !isPost(post) || !isKind(kind) || !areTimes(times...) {
		return api.ErrArg
	}
	return api.OK
}

func areTimes(times ...int) bool {
	for _, t := range times {
		if !inOrder(0, t, api.MaxTime) {
			return false
		}
	}
	return true
}

// rateOf returns the rate of a kind.
func rateOf(r api.Rates, kind int) int {
	rates := [...]int{api.NewsPress: r.Press, api.NewsTemp: r.Temp, api.NewsEast: r.Wind, api.NewsNorth: r.Wind}
	return rates[kind]
}

// atHand yields the reports at hand, with their indices.
func atHand(l []api.News, post, kind, now int) iter.Seq2[int, api.News] {
	return func(yield func(i int, n api.News) bool) {
		for i, n := range l {
			if n.Post == post && n.Kind == kind && n.Came <= now && !yield(i, n) {
				return
			}
		}
	}
}

// change returns how far a value changes from a time to another one, at most.
func change(rate, a, b int) int { return rate * max(a-b, b-a) }

// contradict reports whether two reports contradict each other.
func contradict(rate int, a, b api.News) bool {
	return max(a.Val.Lo-b.Val.Hi, b.Val.Lo-a.Val.Hi) > change(rate, a.Seen, b.Seen)
}

// firstConflict returns the indices of the first two reports at hand that contradict each other, if any do.
func firstConflict(r api.Rates, l []api.News, post, kind, now int) (i, k int, found bool) {
	rate := rateOf(r, kind)
	for i, a := range atHand(l, post, kind, now) {
		for k, b := range atHand(l, post, kind, now) {
			if k > i && contradict(rate, a, b) {
				return i, k, true
			}
		}
	}
	return 0, 0, false
}

// Known returns what is known of a value at a time (P2.5).
func Known(r api.Rates, l []api.News, post, kind, at, now int) (api.Span, api.Errno) {
	if e := checkQuestion(r, l, post, kind, at, now); e != api.OK {
		return api.Span{}, e
	}
	if _, _, found := firstConflict(r, l, post, kind, now); found {
		return api.Span{}, api.ErrConflict
	}
	none, known := true, api.Span{Lo: -api.MaxBound, Hi: api.MaxBound}
	for _, n := range atHand(l, post, kind, now) {
		none = false
		// There is always something left, as no two of the reports contradict each other.
		known, _ = bound.Meet(known, longer(n.Val, change(rateOf(r, kind), n.Seen, at)))
	}
	if none {
		return api.Span{}, api.ErrNone
	}
	return known, api.OK
}

// Conflict returns two reports that contradict each other (P2.5).
func Conflict(r api.Rates, l []api.News, post, kind, now int) (i, k int, e api.Errno) {
	if e := checkQuestion(r, l, post, kind, now); e != api.OK {
		return 0, 0, e
	}
	i, k, found := firstConflict(r, l, post, kind, now)
	if !found {
		return 0, 0, api.ErrNone
	}
	return i, k, api.OK
}

// Sound returns a sounding and winds of some posts (P2.6).
func Sound(p []api.Post, r api.Rates, l []api.News, at, now int) ([]api.Level, []api.Gale, api.Errno) {
	if e := CheckNews(l); e != api.OK {
		return nil, nil, e
	}
	levels, gales := unknown(p)
	if Check(levels) != api.OK || CheckWinds(gales) != api.OK || !areRates(r) || !areTimes(at, now) {
		return nil, nil, api.ErrArg
	}
	unfit := false
	for post := range p {
		wind := &gales[post].Wind
		parts := [...]*api.Span{api.NewsPress: &levels[post].Press, api.NewsTemp: &levels[post].Temp, api.NewsEast: &wind.X, api.NewsNorth: &wind.Y}
		for kind := api.NewsPress; kind <= api.NewsNorth; kind++ {
			known, e := Known(r, l, post, kind, at, now)
			if e != api.OK {
				return nil, nil, e
			}
			*parts[kind], e = bound.Meet(*parts[kind], known)
			unfit = unfit || e != api.OK
		}
	}
	if unfit {
		return nil, nil, api.ErrUnfit
	}
	return levels, gales, api.OK
}

// unknown returns the levels and the gales of some posts of which nothing is known but the ranges. They are valid exactly if the posts are: from 2 to MaxLevels, with Heights and Gusts that may be.
func unknown(p []api.Post) (levels []api.Level, gales []api.Gale) {
	wind := api.Span{Lo: -api.MaxWind, Hi: api.MaxWind}
	for _, post := range p {
		levels = append(levels, api.Level{
			Height: post.Height,
			Press:  api.Span{Lo: api.MinPress, Hi: api.MaxPress},
			Temp:   api.Span{Lo: api.MinTemp, Hi: api.MaxTemp},
		})
		gales = append(gales, api.Gale{Height: post.Height, Wind: api.Wind{X: wind, Y: wind}, Gust: post.Gust})
	}
	return levels, gales
}
