package trim

import "ballonet/api"

// CheckFrames returns ErrMany if there are too many frames, and ErrFrame unless all are valid (P4.1).
func CheckFrames(l []api.Frame) api.Errno {
	return checkList(l, api.MaxFrames, isFrame, api.ErrFrame)
}

func isFrame(f api.Frame) bool {
	return isPlace(f.At) && inOrder(0, f.Shear, api.MaxShear) && inOrder(0, f.Bend, api.MaxBend)
}

// astern returns what loads are to a frame at a place: At is how far astern of it they are, and Weight what of them is there. So the shear at the frame is their heaviness, and the bending their moment.
func astern(l []api.Load, at int) []api.Load {
	seen := make([]api.Load, len(l))
	for i, x := range l {
		arm := api.Span{Lo: max(at-x.At.Hi, 0), Hi: max(at-x.At.Lo, 0)}
		weight := x.Weight
		switch {
		case arm.Hi == 0:
			weight = api.Span{}
		case arm.Lo == 0:
			// It may be astern or not: then there may also be nothing of it.
			weight = api.Span{Lo: min(weight.Lo, 0), Hi: max(weight.Hi, 0)}
		}
		seen[i] = api.Load{At: arm, Weight: weight}
	}
	return seen
}

// Shear returns the ends of the shear of all choices at a place (P4.3).
func Shear(l []api.Load, at int) (api.Span, api.Errno) { return atPlace(l, at, heavinessOf) }

// Bend returns the ends of the bending of all choices at a place (P4.3).
func Bend(l []api.Load, at int) (api.Span, api.Errno) { return atPlace(l, at, momentOf) }

// atPlace returns what is asked of the loads that are astern of a place.
func atPlace(l []api.Load, at int, ask func(l []api.Load) api.Span) (api.Span, api.Errno) {
	if e := CheckLoads(l); e != api.OK {
		return api.Span{}, e
	}
	if !isPlace(at) {
		return api.Span{}, api.ErrArg
	}
	return ask(astern(l, at)), api.OK
}

// Strained returns the indices of the frames that loads strain (P4.3).
func Strained(l []api.Load, frames []api.Frame) ([]int, api.Errno) {
	if e := CheckLoads(l); e != api.OK {
		return nil, e
	}
	if e := CheckFrames(frames); e != api.OK {
		return nil, e
	}
	var strained []int
	for i, f := range frames {
		seen := astern(l, f.At)
		if !bears(f.Shear, heavinessOf(seen)) || !bears(f.Bend, momentOf(seen)) {
			strained = append(strained, i)
		}
	}
	return strained, api.OK
}

// bears reports whether a span is not beyond most, to either side.
func bears(most int, s api.Span) bool { return inOrder(-most, s.Lo, s.Hi, most) }
