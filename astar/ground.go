package astar

import (
	"iter"
	"slices"

	"skirmish/api"
	"skirmish/grid"
	"skirmish/terrain"
)

// directions is the number of directions of layer 6.
const directions = 8

// A ground is a map with blocked cells, as units of a movement class find it.
type ground struct {
	m       api.Map
	blocked []bool
	class   int
}

// valid tells whether the map and the class are valid. The other methods are for valid grounds.
func (g ground) valid() bool {
	return terrain.Valid(g.m) && (g.class == api.CFoot || g.class == api.CHover || g.class == api.CFly)
}

// inside tells whether p is a cell of the map.
func (g ground) inside(p api.Pos) bool {
	return grid.In(g.m.W, g.m.H, p)
}

// contains tells whether all positions of a list are cells of the map.
func (g ground) contains(list []api.Pos) bool {
	return !slices.ContainsFunc(list, func(p api.Pos) bool { return !g.inside(p) })
}

// index returns the index of the cell p.
func (g ground) index(p api.Pos) int {
	return grid.Index(g.m.W, p)
}

// free tells whether units may be on the cell p.
func (g ground) free(p api.Pos) bool {
	if !terrain.Passable(g.m, g.class, p) {
		return false
	}
	i := g.index(p)
	return g.class == api.CFly || i >= len(g.blocked) || !g.blocked[i]
}

// steps produces the possible steps from the cell p, in ascending directions: the cells that they lead to, and their costs.
func (g ground) steps(p api.Pos) iter.Seq2[api.Pos, int] {
	return func(yield func(q api.Pos, cost int) bool) {
		for dir := range directions {
			cost, ok := terrain.Step(g.m, g.blocked, g.class, p, dir)
			if ok && !yield(grid.Step(p, dir), cost) {
				return
			}
		}
	}
}

// cost returns the cost of the step from p to q and true if there is one and it is possible.
func (g ground) cost(p, q api.Pos) (int, bool) {
	for r, cost := range g.steps(p) {
		if r == q {
			return cost, true
		}
	}
	return 0, false
}

// numbers returns a number for each cell, all of them none.
func (g ground) numbers() []int {
	return slices.Repeat([]int{none}, len(g.m.Cells))
}
