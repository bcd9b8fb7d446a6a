package hier

import (
	"skirmish/api"
	"skirmish/cluster"
	"skirmish/grid"
	"skirmish/terrain"
)

// A plan is the extended graph for two cells a and b.
type plan struct {
	cells []api.Pos // the cells of the vertices: the nodes, a and b
	edges network
	rests []int // the distances of the vertices
	start int   // the number of the vertex a
}

// plan returns the plan for the cells a and b, between which there is a way.
func (l land) plan(g api.Graph, a, b api.Pos) (plan, api.Errno) {
	if !l.valid() || !grid.In(l.m.W, l.m.H, a) || !grid.In(l.m.W, l.m.H, b) {
		return plan{}, api.ErrArg
	}
	if !l.open(a) || !l.open(b) {
		return plan{}, api.ErrBlocked
	}
	if !fits(g, l.m) {
		// The map has another graph, and a search might not end. Without nodes, it ends at the borders of the cluster.
		g = api.Graph{Class: g.Class}
	}
	t := l.extend(g, a, b)
	if t.cost() == none {
		return plan{}, api.ErrUnreachable
	}
	return t, api.OK
}

// open tells whether units may be on the cell p.
func (l land) open(p api.Pos) bool {
	if !terrain.Passable(l.m, l.class, p) {
		return false
	}
	i := grid.Index(l.m.W, p)
	return l.class == api.CFly || i >= len(l.blocked) || !l.blocked[i]
}

// extend returns the plan for a and b, where edges to b come before those to nodes, and these ascend.
func (l land) extend(g api.Graph, a, b api.Pos) plan {
	start, goal := len(g.Nodes), len(g.Nodes)+1
	t := plan{start: start, edges: make(network, goal+1)}
	for _, n := range g.Nodes {
		t.cells = append(t.cells, n.At)
	}
	t.cells = append(t.cells, a, b)
	for v, cost := range l.inner(b, t.cells[:goal]) {
		t.join(v, goal, cost)
	}
	for v, cost := range l.inner(a, t.cells[:start]) {
		t.join(start, v, cost)
	}
	for _, link := range g.Links {
		t.join(link.From, link.To, link.Cost)
	}
	t.rests = t.edges.reversed().costs(goal)
	return t
}

// inner returns the costs of the ways from the cells of a list to q that do not leave the cluster, and none for those that have no such way.
func (l land) inner(q api.Pos, list []api.Pos) []int {
	return l.district(cluster.Of(l.m, q)).rests(q, list)
}

// join adds the edge from a vertex to another one, if it has a cost.
func (t plan) join(from, to, cost int) {
	if cost != none {
		t.edges[from] = append(t.edges[from], edge{to, cost})
	}
}

// cost returns the distance of a, and none if there is no way to b.
func (t plan) cost() int {
	return t.rests[t.start]
}

// stops returns the cells of the abstract path.
func (t plan) stops() []api.Pos {
	var list []api.Pos
	for _, v := range t.edges.walk(t.start, t.rests) {
		list = append(list, t.cells[v])
	}
	return list
}

// onward returns the cells behind p on the way to q, which is a cell of the same cluster, or one step away in another one.
func (l land) onward(p, q api.Pos) []api.Pos {
	k := cluster.Of(l.m, p)
	if cluster.Of(l.m, q) != k {
		return []api.Pos{q}
	}
	return l.district(k).walk(p, q)[1:]
}
