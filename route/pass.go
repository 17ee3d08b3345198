package route

import (
	"iter"
	"slices"
	"sort"

	"ballonet/api"
)

// CheckTerrain returns ErrGround unless a terrain is valid (P6.1).
func CheckTerrain(t api.Terrain) api.Errno {
	// Both sides are in their range when they are multiplied.
	if !inOrder(1, t.W, api.MaxField) || !inOrder(1, t.H, api.MaxField) || len(t.Ground) != t.W*t.H {
		return api.ErrGround
	}
	for _, height := range t.Ground {
		if !isHeight(height) {
			return api.ErrGround
		}
	}
	return api.OK
}

// Pass returns the height of the pass between two cells, and the pass (P6.1).
func Pass(t api.Terrain, from, to int) (height int, path []int, e api.Errno) {
	if e := CheckTerrain(t); e != api.OK {
		return 0, nil, e
	}
	if !isCell(t, from) || !isCell(t, to) {
		return 0, nil, api.ErrArg
	}
	height = passHeight(t, from, to)
	return height, firstPath(t, from, to, stepsTo(t, to, height)), api.OK
}

func isCell(t api.Terrain, cell int) bool { return inOrder(0, cell, len(t.Ground)-1) }

// passHeight returns the least height of a path between two cells.
func passHeight(t api.Terrain, from, to int) int {
	heights := slices.Sorted(slices.Values(t.Ground))
	// At the greatest height there is a path between any two cells.
	least := sort.Search(len(heights)-1, func(i int) bool { return stepsTo(t, to, heights[i])[from] != noSteps })
	return heights[least]
}

// noSteps stands for the number of steps where there is no path.
const noSteps = -1

// stepsTo returns for each cell how many steps the shortest path from it to a cell has, of those that are nowhere above a height.
func stepsTo(t api.Terrain, to, height int) []int {
	steps := slices.Repeat([]int{noSteps}, len(t.Ground))
	if t.Ground[to] > height {
		return steps
	}
	steps[to] = 0
	reached := []int{to}
	for len(reached) > 0 {
		here := reached[0]
		reached = reached[1:]
		for cell := range beside(t, here) {
			if t.Ground[cell] <= height && steps[cell] == noSteps {
				steps[cell] = steps[here] + 1
				reached = append(reached, cell)
			}
		}
	}
	return steps
}

// firstPath returns the first one, in lexicographic order, of the shortest paths between two cells, by the steps that there are from each cell.
func firstPath(t api.Terrain, from, to int, steps []int) []int {
	path := []int{from}
	for here := from; here != to; {
		for cell := range beside(t, here) {
			if steps[cell] == steps[here]-1 {
				here = cell
				break
			}
		}
		path = append(path, here)
	}
	return path
}

// beside yields the cells beside a cell, in increasing order.
func beside(t api.Terrain, cell int) iter.Seq[int] {
	return func(yield func(cell int) bool) {
		row, column := cell/t.W, cell%t.W
		if row > 0 && !yield(cell-t.W) {
			return
		}
		if column > 0 && !yield(cell-1) {
			return
		}
		if column < t.W-1 && !yield(cell+1) {
			return
		}
		if row < t.H-1 {
			yield(cell + t.W)
		}
	}
}
