package hier

import (
	"cmp"
	"slices"

	"skirmish/api"
	"skirmish/cluster"
	"skirmish/grid"
)

// dear is more than a way within a cluster can cost, and so little that the costs of all nodes have a sum.
const dear = 1 << 16

// starts returns the first cells of the roads, each once, ascending by index.
func starts(roads []road) []api.Pos {
	var list []api.Pos
	for _, r := range roads {
		list = append(list, r.from)
	}
	slices.SortFunc(list, byPlace)
	return slices.Compact(list)
}

// byPlace compares two cells by their indices.
func byPlace(p, q api.Pos) int {
	return cmp.Or(cmp.Compare(p.Y, q.Y), cmp.Compare(p.X, q.X))
}

// byEnds compares two links by the nodes that they connect.
func byEnds(a, b api.Link) int {
	return cmp.Or(cmp.Compare(a.From, b.From), cmp.Compare(a.To, b.To))
}

// graphOf returns the graph of roads, each of which has an opposite one.
func graphOf(class int, roads []road) api.Graph {
	g := api.Graph{Class: class}
	numbers := map[api.Pos]int{}
	for i, p := range starts(roads) {
		g.Nodes = append(g.Nodes, api.Node{At: p})
		numbers[p] = i
	}
	for _, r := range roads {
		g.Links = append(g.Links, api.Link{From: numbers[r.from], To: numbers[r.to], Cost: r.cost})
	}
	slices.SortFunc(g.Links, byEnds)
	return g
}

// roadsOf returns the roads of the graph g of m by the clusters of their first cells, with an entry for each cluster.
func roadsOf(g api.Graph, m api.Map) map[int][]road {
	roads := map[int][]road{}
	for k := range cluster.Count(m) {
		roads[k] = nil
	}
	var owners []int
	for _, n := range g.Nodes {
		owners = append(owners, cluster.Of(m, n.At))
	}
	for _, l := range g.Links {
		k := owners[l.From]
		roads[k] = append(roads[k], road{g.Nodes[l.From].At, g.Nodes[l.To].At, l.Cost})
	}
	return roads
}

// fits tells whether g can be the graph of a map of the size of m: searching it ends, and finds only cells and nodes that exist.
func fits(g api.Graph, m api.Map) bool {
	for i, n := range g.Nodes {
		if !grid.In(m.W, m.H, n.At) || i > 0 && byPlace(g.Nodes[i-1].At, n.At) >= 0 {
			return false
		}
	}
	for i, l := range g.Links {
		ends := isNode(g, l.From) && isNode(g, l.To)
		if !ends || l.Cost < 1 || l.Cost > dear || i > 0 && byEnds(g.Links[i-1], l) >= 0 {
			return false
		}
	}
	return true
}

// isNode tells whether i is the index of a node.
func isNode(g api.Graph, i int) bool {
	return i >= 0 && i < len(g.Nodes)
}
