package hier

import "slices"

// none is the cost of a way where there is none.
const none = -1

// A network has for each vertex, which is a number, the edges that lead on from it, the preferred ones first.
type network [][]edge

type edge struct{ to, cost int }

// reversed returns the network of the opposite edges.
func (n network) reversed() network {
	back := make(network, len(n))
	for v, edges := range n {
		for _, e := range edges {
			back[e.to] = append(back[e.to], edge{v, e.cost})
		}
	}
	return back
}

// costs returns for each vertex the least cost of a way to it from the vertex start, and none if there is none.
func (n network) costs(start int) []int {
	costs := slices.Repeat([]int{none}, len(n))
	costs[start] = 0
	examined := make([]bool, len(n))
	for v := start; v != none; v = nearest(costs, examined) {
		examined[v] = true
		for _, e := range n[v] {
			if cost := costs[v] + e.cost; costs[e.to] == none || cost < costs[e.to] {
				costs[e.to] = cost
			}
		}
	}
	return costs
}

// nearest returns the vertex of least cost of those that have been found but not examined, and none if there is none.
// A network has at most as many vertices as a map has cells, and two more, so asking all of them is fast enough.
func nearest(costs []int, examined []bool) int {
	best := none
	for v, cost := range costs {
		if cost != none && !examined[v] && (best == none || cost < costs[best]) {
			best = v
		}
	}
	return best
}

// walk returns the vertices from v on, where each step goes by the first edge that fits the rests, which are the costs of the ways that are left.
// The rests get smaller, but for the first edge, so the walk ends.
func (n network) walk(v int, rests []int) []int {
	way := []int{v}
	for rests[v] > 0 {
		i := slices.IndexFunc(n[v], func(e edge) bool { return e.cost+rests[e.to] == rests[v] })
		v = n[v][i].to
		way = append(way, v)
	}
	return way
}
