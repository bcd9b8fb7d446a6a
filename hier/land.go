package hier

import (
	"skirmish/api"
	"skirmish/astar"
	"skirmish/cluster"
	"skirmish/terrain"
)

// A land is a map with blocked cells, as units of a movement class find it.
type land struct {
	m       api.Map
	blocked []bool
	class   int
}

// valid tells whether the map and the class are valid. All methods but plan are for valid lands.
func (l land) valid() bool {
	return terrain.Valid(l.m) && (l.class == api.CFoot || l.class == api.CHover || l.class == api.CFly)
}

// A road is a link between two cells.
type road struct {
	from, to api.Pos
	cost     int
}

// complete returns the graph of the roads that are known by the cluster of their first cells, and of those of all clusters that are missing.
func (l land) complete(known map[int][]road) api.Graph {
	var all []road
	for k := range cluster.Count(l.m) {
		roads, ok := known[k]
		if !ok {
			roads = l.roads(k)
		}
		all = append(all, roads...)
	}
	return graphOf(l.class, all)
}

// roads returns the roads from the cells of a cluster: over its borders, and between its cells at them.
func (l land) roads(k int) []road {
	roads := l.exits(k)
	gates := starts(roads)
	d := l.district(k)
	for _, p := range gates {
		for i, cost := range d.rests(p, gates) {
			if q := gates[i]; q != p && cost != none {
				roads = append(roads, road{p, q, cost})
			}
		}
	}
	return roads
}

// exits returns the roads from a cluster to the clusters around it.
func (l land) exits(k int) []road {
	area, _ := cluster.Area(l.m, k)
	right, below := api.Pos{X: area.X + area.W, Y: area.Y}, api.Pos{X: area.X, Y: area.Y + area.H}
	left, above := api.Pos{X: area.X - 1, Y: area.Y}, api.Pos{X: area.X, Y: area.Y - 1}
	var roads []road
	for _, p := range [...]api.Pos{right, below, left, above} {
		next := cluster.Of(l.m, p)
		for _, pair := range cluster.Entrances(l.m, l.blocked, l.class, k, next) {
			roads = append(roads, l.crossing(pair[0], pair[1]))
		}
		for _, pair := range cluster.Entrances(l.m, l.blocked, l.class, next, k) {
			roads = append(roads, l.crossing(pair[1], pair[0]))
		}
	}
	return roads
}

// crossing returns the road by the step from p to q.
func (l land) crossing(p, q api.Pos) road {
	cost, _ := astar.Cost(l.m, l.blocked, l.class, []api.Pos{p, q})
	return road{p, q, cost}
}
