package route_test

import (
	"math"
	"math/rand"
	"slices"
	"testing"

	"ballonet/api"
	"ballonet/route"
)

func terrain(w int, ground ...int) api.Terrain {
	return api.Terrain{W: w, H: len(ground) / w, Ground: ground}
}

// hills is the terrain of the chapter's examples.
func hills() api.Terrain { return terrain(3, 0, 9, 0, 0, 7, 0, 0, 8, 0) }

// flat returns a terrain of one height.
func flat(w, h, height int) api.Terrain {
	return terrain(w, slices.Repeat([]int{height}, w*h)...)
}

// badTerrains are terrains that are not valid.
func badTerrains() []api.Terrain {
	bad := []api.Terrain{
		{}, {W: 1, H: 1}, {W: 0, H: 1}, {W: 1, H: 0}, {W: -1, H: -1, Ground: []int{0}},
		{W: 2, H: 2, Ground: make([]int, 3)}, {W: 2, H: 2, Ground: make([]int, 5)}, {W: 3, H: 1, Ground: make([]int, 4)},
		{W: 25, H: 1, Ground: make([]int, 25)}, {W: 1, H: 25, Ground: make([]int, 25)},
		{W: -3, H: -3, Ground: make([]int, 9)}, {W: 24, H: 25, Ground: make([]int, 600)},
		// Products that overflow to what is there.
		{W: 1 << 32, H: 1 << 32}, {W: math.MinInt, H: 2}, {W: math.MaxInt, H: math.MaxInt, Ground: []int{0}}, {W: math.MinInt + 1, H: math.MinInt + 1, Ground: []int{0}},
	}
	for _, height := range []int{-501, 9001, math.MinInt, math.MaxInt} {
		for i := range 9 {
			t := hills()
			t.Ground[i] = height
			bad = append(bad, t)
		}
	}
	return bad
}

func TestP6_1CheckTerrain(t *testing.T) {
	for i, g := range []api.Terrain{hills(), flat(1, 1, -500), flat(24, 24, 9000), flat(24, 1, 0), flat(1, 24, 0)} {
		if e := route.CheckTerrain(g); e != api.OK {
			t.Error(i, e)
		}
	}
	for i, g := range badTerrains() {
		if e := route.CheckTerrain(g); e != api.ErrGround {
			t.Error(i, g, e)
		}
	}
}

func TestP6_1PassErrors(t *testing.T) {
	check := func(g api.Terrain, from, to int, want api.Errno) {
		t.Helper()
		if h, path, e := route.Pass(g, from, to); e != want || h != 0 || len(path) > 0 {
			t.Error(g, from, to, h, path, e)
		}
	}
	for _, g := range badTerrains() {
		check(g, 0, 0, api.ErrGround)
		check(g, -1, 99, api.ErrGround)
	}
	high := flat(3, 3, 100)
	for _, cell := range []int{-1, 9, math.MinInt, math.MaxInt} {
		check(high, cell, 0, api.ErrArg)
		check(high, 0, cell, api.ErrArg)
		check(high, cell, cell, api.ErrArg)
	}
}

func TestP6_1Pass(t *testing.T) {
	for i, x := range []struct {
		g        api.Terrain
		from, to int
		height   int
		path     []int
	}{
		{hills(), 0, 2, 7, []int{0, 3, 4, 5, 2}},
		{hills(), 2, 0, 7, []int{2, 5, 4, 3, 0}},
		{hills(), 0, 6, 0, []int{0, 3, 6}},
		{hills(), 1, 7, 9, []int{1, 4, 7}},
		{hills(), 6, 8, 7, []int{6, 3, 4, 5, 8}},
		// A cell and itself: one cell, whatever is around it.
		{hills(), 1, 1, 9, []int{1}},
		{flat(1, 1, -500), 0, 0, -500, []int{0}},
		// The height is that of all cells, also of the first and the last one.
		{terrain(3, 5, 0, 0), 0, 2, 5, []int{0, 1, 2}},
		{terrain(3, 0, 0, -7), 0, 2, 0, []int{0, 1, 2}},
		{terrain(3, -300, -500, -400), 0, 2, -300, []int{0, 1, 2}},
		// One row, one column.
		{terrain(4, 1, 2, 3, 4), 3, 0, 4, []int{3, 2, 1, 0}},
		{terrain(1, 1, 2, 3, 4), 0, 3, 4, []int{0, 1, 2, 3}},
		{terrain(1, 1, 2, 3, 4), 2, 0, 3, []int{2, 1, 0}},
		// The end of a row is not beside the beginning of the next one.
		{terrain(3, 9, 9, 0, 0, 9, 9), 2, 3, 9, []int{2, 1, 0, 3}},
		{terrain(3, 0, 0, 0, 9, 9, 0, 0, 0, 0), 2, 6, 0, []int{2, 5, 8, 7, 6}},
		// Nor are cells that touch at a corner.
		{terrain(2, 0, 5, 6, 0), 0, 3, 5, []int{0, 1, 3}},
		{terrain(2, 0, 6, 5, 0), 0, 3, 5, []int{0, 2, 3}},
		// Of the lowest the shortest one, not one that is low for longer.
		{terrain(3, 4, 3, 4, 0, 0, 0), 0, 2, 4, []int{0, 1, 2}},
		// A low way round is better than a short one over a hill that is higher by one.
		{terrain(3, 4, 5, 4, 0, 0, 0), 0, 2, 4, []int{0, 3, 4, 5, 2}},
		// Of the shortest the first one in lexicographic order: in numbers, not in digits, and up before left, right and down.
		{flat(3, 3, 7), 0, 8, 7, []int{0, 1, 2, 5, 8}},
		{flat(3, 3, 7), 8, 0, 7, []int{8, 5, 2, 1, 0}},
		{flat(3, 3, 7), 2, 6, 7, []int{2, 1, 0, 3, 6}},
		{flat(3, 3, 7), 6, 2, 7, []int{6, 3, 0, 1, 2}},
		{flat(4, 4, 7), 13, 8, 7, []int{13, 9, 8}},
		{flat(4, 4, 7), 8, 13, 7, []int{8, 9, 13}},
	} {
		h, path, e := route.Pass(x.g, x.from, x.to)
		if e != api.OK || h != x.height || !slices.Equal(path, x.path) {
			t.Error(i, h, path, e)
		}
	}
}

// isBeside reports whether two cells are beside each other.
func isBeside(g api.Terrain, a, b int) bool {
	across, along := a/g.W-b/g.W, a%g.W-b%g.W
	return across*across+along*along == 1
}

func heightOf(g api.Terrain, path []int) int {
	h := g.Ground[path[0]]
	for _, cell := range path {
		h = max(h, g.Ground[cell])
	}
	return h
}

// isPath reports whether a list is a path between two cells.
func isPath(g api.Terrain, path []int, from, to int) bool {
	for i, cell := range path {
		if i > 0 && !isBeside(g, path[i-1], cell) || slices.Contains(path[:i], cell) {
			return false
		}
	}
	return len(path) > 0 && path[0] == from && path[len(path)-1] == to
}

// eachPath calls a function with each path that goes on from one to a cell.
func eachPath(g api.Terrain, path []int, to int, f func(path []int)) {
	last := path[len(path)-1]
	if last == to {
		f(path)
		return
	}
	for cell := range g.Ground {
		if isBeside(g, last, cell) && !slices.Contains(path, cell) {
			eachPath(g, append(slices.Clone(path), cell), to, f)
		}
	}
}

// someTerrain returns a terrain with sides up to some, whose heights are often the same.
func someTerrain(r *rand.Rand, side int) api.Terrain {
	g := flat(1+r.Intn(side), 1+r.Intn(side), 0)
	kinds := 1 + r.Intn(12)
	for i := range g.Ground {
		g.Ground[i] = 100*r.Intn(kinds) - 300
	}
	return g
}

// P6.1 and P6.7: of all paths the pass is the one that is told.
func TestP6_7AllPaths(t *testing.T) {
	r := rand.New(rand.NewSource(61))
	for range 1500 {
		g := someTerrain(r, 4)
		from, to := r.Intn(len(g.Ground)), r.Intn(len(g.Ground))
		var best []int
		eachPath(g, []int{from}, to, func(path []int) {
			switch {
			case best == nil || heightOf(g, path) < heightOf(g, best):
				best = path
			case heightOf(g, path) > heightOf(g, best):
			case len(path) < len(best) || len(path) == len(best) && slices.Compare(path, best) < 0:
				best = path
			}
		})
		h, path, e := route.Pass(g, from, to)
		if e != api.OK || h != heightOf(g, best) || !slices.Equal(path, best) {
			t.Fatal(g, from, to, h, path, e, "want", best)
		}
	}
}

// canReach reports whether there is a path between two cells that is nowhere above a height.
func canReach(g api.Terrain, from, to, height int) bool {
	reached := map[int]bool{from: g.Ground[from] <= height}
	for range g.Ground {
		for cell := range g.Ground {
			for _, next := range []int{cell - 1, cell + 1, cell - g.W, cell + g.W} {
				if reached[cell] && next >= 0 && next < len(g.Ground) && isBeside(g, cell, next) && g.Ground[next] <= height {
					reached[next] = true
				}
			}
		}
	}
	return reached[from] && reached[to]
}

// P6.7: no path is lower than the pass, and the pass the other way is as high, and as long.
func TestP6_7Directions(t *testing.T) {
	r := rand.New(rand.NewSource(62))
	for range 60 {
		g := someTerrain(r, 12)
		from, to := r.Intn(len(g.Ground)), r.Intn(len(g.Ground))
		h, path, e := route.Pass(g, from, to)
		back, way, f := route.Pass(g, to, from)
		if e != api.OK || f != api.OK || h != back || len(path) != len(way) || !isPath(g, path, from, to) || !isPath(g, way, to, from) {
			t.Fatal(g, from, to, h, path, e, back, way, f)
		}
		if h != heightOf(g, path) || h != heightOf(g, way) || canReach(g, from, to, h-1) {
			t.Fatal(g, from, to, h, path, way)
		}
	}
}

// The largest terrains: a wall with one low gate, and a path through all rows.
func TestP6_7Large(t *testing.T) {
	g := flat(24, 24, -500)
	for row := 1; row < 24; row += 2 {
		for column := range 24 {
			g.Ground[24*row+column] = 9000
		}
		// The gates are at either end by turns.
		g.Ground[24*row+23*(row/2%2)] = row
	}
	h, path, e := route.Pass(g, 23, 24*22+23)
	if e != api.OK || h != 21 || len(path) != 12*24+11 || !isPath(g, path, 23, 24*22+23) {
		t.Error(h, path, e)
	}
	if h, path, e := route.Pass(flat(24, 24, 9000), 0, 575); e != api.OK || h != 9000 || len(path) != 47 || !isPath(flat(24, 24, 0), path, 0, 575) || path[23] != 23 {
		t.Error(h, path, e)
	}
}
