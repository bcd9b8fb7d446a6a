package shadow

import (
	"skirmish/api"
	"skirmish/grid"
)

// A placing transforms the coordinates of an octant, 0 <= y <= x, to the cells of a map. It transforms (0, 0) to the cell around which the octant lies.
type placing func(x, y int) api.Pos

// octant returns the placing of the octant around from whose x grows by the displacement along, and y by the displacement across.
func octant(from, along, across api.Pos) placing {
	return func(x, y int) api.Pos {
		return api.Pos{X: from.X + x*along.X + y*across.X, Y: from.Y + x*along.Y + y*across.Y}
	}
}

// octants returns the placings of the eight octants around from, which share their borders.
func octants(from api.Pos) []placing {
	var list []placing
	for quarter := range 4 {
		along := straight(quarter)
		list = append(list, octant(from, along, straight(quarter+1)), octant(from, along, straight(quarter+3)))
	}
	return list
}

// straight returns the displacement in the direction that is a number of quarter turns away from the east.
func straight(quarter int) api.Pos {
	return grid.Step(api.Pos{}, 2*quarter%8)
}

// show marks the cells of an octant that are visible within a radius.
func show(m api.Map, place placing, radius int, high bool, visible []bool) {
	for x := range radius + 1 {
		for y := range x + 1 {
			p := place(x, y)
			if x*x+y*y <= radius*radius && grid.In(m.W, m.H, p) && (high || unblocked(m, place, x, y)) {
				visible[grid.Index(m.W, p)] = true
			}
		}
	}
}
