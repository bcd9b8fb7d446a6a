package cluster

import (
	"iter"

	"skirmish/api"
	"skirmish/grid"
	"skirmish/terrain"
)

// The directions of layer 6 that lead to the next cluster, and along a border.
const (
	east  = 0
	south = 2
)

// longRun is the least number of crossings of a run that has two entrances.
const longRun = 6

// A border lies between a cluster and the next one to the right or below.
type border struct {
	first  api.Pos // the first cell before the border
	length int
	across int // the direction over the border
	along  int // the direction from one cell before the border to the next one
}

// borderOf returns the border of the clusters a and b of a valid map, and true if b is directly to the right of a or directly below it.
func borderOf(m api.Map, a, b int) (border, bool) {
	area := areaOf(m, a)
	switch next := areaOf(m, b); {
	case next.Y == area.Y && next.X == area.X+area.W:
		return border{first: api.Pos{X: next.X - 1, Y: next.Y}, length: area.H, across: east, along: south}, true
	case next.X == area.X && next.Y == area.Y+area.H:
		return border{first: api.Pos{X: next.X, Y: next.Y - 1}, length: area.W, across: south, along: east}, true
	}
	return border{}, false
}

// cells produces the pairs of cells on both sides of the border, one after the other.
func (b border) cells() iter.Seq2[api.Pos, api.Pos] {
	return func(yield func(p, q api.Pos) bool) {
		p := b.first
		for range b.length {
			if !yield(p, grid.Step(p, b.across)) {
				return
			}
			p = grid.Step(p, b.along)
		}
	}
}

// runs returns the runs of crossings of the border, one after the other.
func (b border) runs(m api.Map, blocked []bool, class int) [][][2]api.Pos {
	possible := func(p api.Pos, dir int) bool {
		_, ok := terrain.Step(m, blocked, class, p, dir)
		return ok
	}
	var runs [][][2]api.Pos
	goesOn := false
	for p, q := range b.cells() {
		if !possible(p, b.across) {
			goesOn = false
			continue
		}
		if !goesOn {
			runs = append(runs, nil)
		}
		last := len(runs) - 1
		runs[last] = append(runs[last], [2]api.Pos{p, q})
		goesOn = possible(p, b.along) && possible(q, b.along)
	}
	return runs
}

// entrancesOf returns the entrances of a run: the one in its middle, or those at its ends if it is long.
func entrancesOf(run [][2]api.Pos) [][2]api.Pos {
	last := len(run) - 1
	if len(run) < longRun {
		return [][2]api.Pos{run[last/2]}
	}
	return [][2]api.Pos{run[0], run[last]}
}
