package mast

import (
	"slices"

	"ballonet/api"
)

// Man returns how many people hold each line (P7.3).
func Man(pulls []api.Span, people, most int) ([]int, api.Errno) {
	if !arePulls(pulls) || !arePeople(people) || !isMost(most) {
		return nil, api.ErrArg
	}
	held := needs(pulls, most)
	left := people - sum(held)
	if left < 0 {
		return nil, api.ErrFew
	}
	sendOn(pulls, held, left)
	return held, api.OK
}

// arePulls reports whether some pulls are those of a port's lines.
func arePulls(pulls []api.Span) bool {
	isNone := func(s api.Span) bool { return !inOrder(0, s.Lo, s.Hi, api.MaxPull) }
	return len(pulls) <= api.MaxRopes && !slices.ContainsFunc(pulls, isNone)
}

// arePeople reports whether a number of people may be at a port.
func arePeople(n int) bool { return inOrder(0, n, api.MaxPeople) }

// isMost reports whether a number is one that a person may be asked to hold.
func isMost(n int) bool { return inOrder(1, n, api.MaxPull) }

// needs returns how many people each line needs.
func needs(pulls []api.Span, most int) []int {
	n := make([]int, len(pulls))
	for i, pull := range pulls {
		n[i] = (pull.Hi + most - 1) / most
	}
	return n
}

func sum(l []int) int {
	all := 0
	for _, n := range l {
		all += n
	}
	return all
}

// sendOn sends people who are left to lines that are held, one after the other.
func sendOn(pulls []api.Span, held []int, left int) {
people:
	for range left {
		for line := range pulls {
			if pulls[line].Hi > 0 && isHardest(pulls, held, line) {
				held[line]++
				continue people
			}
		}
		// Nothing pulls at any line, and so nobody goes to one.
		break
	}
}

// isHardest reports whether no line pulls harder at each of its people than one that pulls at all, and so is held.
func isHardest(pulls []api.Span, held []int, line int) bool {
	for other := range pulls {
		if pulls[other].Hi*held[line] > pulls[line].Hi*held[other] {
			return false
		}
	}
	return true
}
