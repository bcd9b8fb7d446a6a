package cluster

import (
	"skirmish/api"
	"skirmish/grid"
)

// side is the number of cells of a side of a cluster that the edge of the map does not cut off.
const side = 8

// squares returns the number of clusters beside each other on a length of so many cells.
func squares(length int) int {
	return (length + side - 1) / side
}

// exists tells whether m is valid and has a cluster with this number.
func exists(m api.Map, cluster int) bool {
	return cluster >= 0 && cluster < Count(m)
}

// numberOf returns the number of the cluster of the cell p of a valid map.
func numberOf(m api.Map, p api.Pos) int {
	return grid.Index(squares(m.W), api.Pos{X: p.X / side, Y: p.Y / side})
}

// areaOf returns the rectangle of a cluster of a valid map.
func areaOf(m api.Map, cluster int) api.Rect {
	place := grid.At(squares(m.W), cluster)
	return grid.Clip(m.W, m.H, api.Rect{X: place.X * side, Y: place.Y * side, W: side, H: side})
}

// within returns the position in the area of the cell p of the map.
func within(area api.Rect, p api.Pos) api.Pos {
	return api.Pos{X: p.X - area.X, Y: p.Y - area.Y}
}

// cut returns the area of a valid map as a map of its own, and which of its cells are blocked.
// The steps between the cells of an area are the same in both, because a diagonal step asks only for the cells of a square that lies in the area.
func cut(m api.Map, blocked []bool, area api.Rect) (api.Map, []bool) {
	part := api.Map{W: area.W, H: area.H}
	var partBlocked []bool
	for _, p := range grid.Cells(area) {
		i := grid.Index(m.W, p)
		part.Cells = append(part.Cells, m.Cells[i])
		partBlocked = append(partBlocked, i < len(blocked) && blocked[i])
	}
	return part, partBlocked
}
