package crew

import (
	"cmp"
	"slices"

	"ballonet/api"
)

// Assign returns the first list of lists by which trips are manned (P8.2).
func Assign(d api.Duty, l []api.Shift, members int, trips []api.Trip) ([][]int, api.Errno) {
	if e := cmp.Or(CheckDuty(d), CheckRoster(l)); e != api.OK {
		return nil, e
	}
	if !inOrder(0, members, api.MaxMembers) {
		return nil, api.ErrArg
	}
	if len(trips) > api.MaxTrips {
		return nil, api.ErrMany
	}
	if slices.ContainsFunc(trips, isNoTrip) {
		return nil, api.ErrArg
	}
	crews, isManned := manned(d, l, members, trips)
	if !isManned {
		return nil, api.ErrNone
	}
	return crews, api.OK
}

// isNoTrip reports whether a trip is not valid.
func isNoTrip(t api.Trip) bool { return !isWhile(t.From, t.To) || !inOrder(0, t.Crew, api.MaxCrew) }

// manned returns the first list of lists by which trips are manned, if there is one. Each person is looked at alone, as what makes one tired is in one's own shifts; and as more shifts make nobody less tired, who is tired too early need not go on.
func manned(d api.Duty, l []api.Shift, members int, trips []api.Trip) ([][]int, bool) {
	var own [api.MaxMembers][]api.Shift
	for _, s := range l {
		own[s.Who] = append(own[s.Who], s)
	}
	crews := make([][]int, len(trips))
	var man func(trip, who int) bool
	// man mans the trips from one on, to which those before a person go, or do not, as they are listed.
	man = func(trip, who int) bool {
		if trip == len(trips) {
			return true
		}
		t, crew := trips[trip], crews[trip]
		if len(crew) == t.Crew {
			return man(trip+1, 0)
		}
		for ; who < members; who++ {
			before := own[who]
			own[who] = append(before, api.Shift{Who: who, From: t.From, To: t.To})
			crews[trip] = append(crew, who)
			if isRested(d, own[who]) && man(trip, who+1) {
				return true
			}
			own[who], crews[trip] = before, crew
		}
		return false
	}
	return crews, isRested(d, l) && man(0, 0)
}

// isRested reports whether shifts, of which there may be any number, are a roster in which nobody is tired.
func isRested(d api.Duty, l []api.Shift) bool { return isRoster(l) && len(tired(d, l)) == 0 }
