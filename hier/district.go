package hier

import (
	"skirmish/api"
	"skirmish/cluster"
	"skirmish/grid"
	"skirmish/terrain"
)

// directions is the number of directions of layer 6.
const directions = 8

// A district is a cluster with the possible steps between its cells, whose numbers are their indices in its area.
// Its ways are those of cluster.Inner; but it asks once for each step, however many ways are searched.
type district struct {
	area  api.Rect
	steps network
}

// district returns the district of a cluster.
func (l land) district(k int) district {
	area, _ := cluster.Area(l.m, k)
	d := district{area: area}
	for _, p := range grid.Cells(area) {
		d.steps = append(d.steps, l.steps(d, p))
	}
	return d
}

// steps returns the possible steps from a cell of a district, in ascending directions.
func (l land) steps(d district, p api.Pos) []edge {
	var list []edge
	for dir := range directions {
		cost, ok := terrain.Step(l.m, l.blocked, l.class, p, dir)
		if q := grid.Step(p, dir); ok && grid.Inside(d.area, q) {
			list = append(list, edge{d.number(q), cost})
		}
	}
	return list
}

// number returns the number of the cell p.
func (d district) number(p api.Pos) int {
	return grid.Index(d.area.W, api.Pos{X: p.X - d.area.X, Y: p.Y - d.area.Y})
}

// cell returns the cell with the number i.
func (d district) cell(i int) api.Pos {
	p := grid.At(d.area.W, i)
	return api.Pos{X: d.area.X + p.X, Y: d.area.Y + p.Y}
}

// rests returns the costs of the ways within the district from the cells of a list to q, and none for those that have no such way.
func (d district) rests(q api.Pos, list []api.Pos) []int {
	// Steps are symmetrical, so what a way from q costs is what the way back to q costs.
	costs := d.steps.costs(d.number(q))
	var rests []int
	for _, p := range list {
		rest := none
		if grid.Inside(d.area, p) {
			rest = costs[d.number(p)]
		}
		rests = append(rests, rest)
	}
	return rests
}

// walk returns the cells of the way within the district from p to q.
func (d district) walk(p, q api.Pos) []api.Pos {
	rests := d.steps.costs(d.number(q))
	var path []api.Pos
	for _, i := range d.steps.walk(d.number(p), rests) {
		path = append(path, d.cell(i))
	}
	return path
}
