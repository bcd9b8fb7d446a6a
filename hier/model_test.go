package hier_test

import (
	"math"
	"math/rand"
	"slices"
	"strings"

	"skirmish/api"
)

const (
	maxInt = math.MaxInt
	minInt = math.MinInt
)

func at(x, y int) api.Pos { return api.Pos{X: x, Y: y} }

// cells returns a list of cells from their coordinates.
func cells(numbers ...int) []api.Pos {
	var list []api.Pos
	for i := 0; i < len(numbers); i += 2 {
		list = append(list, at(numbers[i], numbers[i+1]))
	}
	return list
}

func flat(w, h int) api.Map {
	return api.Map{W: w, H: h, Cells: slices.Repeat([]api.Cell{{Kind: api.TGround}}, w*h)}
}

// drawn returns a map from its rows: a digit is ground of that height, another character flat terrain of a kind, and a point flat ground.
func drawn(rows ...string) api.Map {
	kinds := map[rune]int{'~': api.TWater, '#': api.TRock, '*': api.TForest, '$': api.TOre}
	m := flat(len(rows[0]), len(rows))
	for i, char := range strings.Join(rows, "") {
		if kind, ok := kinds[char]; ok {
			m.Cells[i].Kind = kind
		} else if char != '.' {
			m.Cells[i].Height = int(char - '0')
		}
		if char == '*' || char == '$' {
			m.Cells[i].Amount = 9
		}
	}
	return m
}

// randomMap returns a valid map of random terrain; the greater rough is, the less of it is flat ground.
func randomMap(random *rand.Rand, w, h, rough int) api.Map {
	m := flat(w, h)
	for i := range m.Cells {
		if random.Intn(10) < rough {
			m.Cells[i] = api.Cell{Kind: 1 + random.Intn(5), Height: random.Intn(4)}
		}
		if m.Cells[i].Kind == api.TForest || m.Cells[i].Kind == api.TOre {
			m.Cells[i].Amount = 1 + random.Intn(api.MaxAmount)
		}
	}
	return m
}

// randomBlocked returns a list of any length, from none to more than a map needs.
func randomBlocked(random *rand.Rand, m api.Map) []bool {
	blocked := make([]bool, random.Intn(len(m.Cells)+9))
	for i := range blocked {
		blocked[i] = random.Intn(6) == 0
	}
	return blocked
}

// invalidMaps returns maps that are not formed, or have a cell that is not valid.
func invalidMaps() []api.Map {
	ground := flat(32, 32).Cells
	list := []api.Map{
		{}, {W: 1, H: 1}, {Cells: ground[:1]}, {W: 2}, {W: 2, H: 2, Cells: ground[:3]}, {W: 2, H: 2, Cells: ground[:5]}, {W: 33, H: 1, Cells: ground[:33]}, {W: 1, H: 33, Cells: ground[:33]},
		{W: 64, H: 16, Cells: ground}, {W: -1, H: -1, Cells: ground[:1]}, {W: 1 << 32, H: 1 << 32}, {W: minInt, H: minInt}, {W: maxInt, H: maxInt, Cells: ground[:1]},
	}
	for _, c := range []api.Cell{{}, {Kind: 6}, {Kind: -1}, {Kind: 1, Height: 4}, {Kind: 1, Height: -1}, {Kind: 1, Amount: 1}, {Kind: 4}, {Kind: 5}, {Kind: 5, Amount: -1}, {Kind: 4, Amount: api.MaxAmount + 1}, {Kind: maxInt, Height: minInt}} {
		for i := range 6 {
			m := flat(3, 2)
			m.Cells[i] = c
			list = append(list, m)
		}
	}
	return list
}

// noClasses returns numbers that are no movement class.
func noClasses() []int {
	return []int{0, 4, 5, -1, -2, -3, 256 + 1, 1<<32 + 1, maxInt, minInt}
}

// outside returns positions outside a map of w by h cells.
func outside(w, h int) []api.Pos {
	return []api.Pos{at(-1, 0), at(0, -1), at(w, 0), at(0, h), at(w-1, h), at(w, h-1), at(-1, h), at(-1, 1), at(w, h), at(maxInt, 0), at(0, maxInt), at(minInt, 0), at(0, minInt), at(minInt, maxInt), at(1<<32, 0), at(0, 1<<32), at(1<<20, 1<<20)}
}

// model says by the words of the chapters 7, 15 and 16 what graphs and paths there are in a valid map, without calling the program.
type model struct {
	m       api.Map
	blocked []bool
	class   int
}

func (d model) cell(p api.Pos) api.Cell { return d.m.Cells[p.Y*d.m.W+p.X] }

func (d model) at(i int) api.Pos { return at(i%d.m.W, i/d.m.W) }

func (d model) index(p api.Pos) int { return p.Y*d.m.W + p.X }

func (d model) free(p api.Pos) bool {
	if p.X < 0 || p.Y < 0 || p.X >= d.m.W || p.Y >= d.m.H {
		return false
	}
	if d.class == api.CFly {
		return true
	}
	kind := d.cell(p).Kind
	if kind != api.TGround && kind != api.TOre && (kind != api.TWater || d.class == api.CFoot) {
		return false
	}
	return d.index(p) >= len(d.blocked) || !d.blocked[d.index(p)]
}

func (d model) rise(p, q api.Pos) int {
	if d.class == api.CFly {
		return 0
	}
	rise := d.cell(p).Height - d.cell(q).Height
	return max(rise, -rise)
}

func (d model) joined(p, q api.Pos) bool { return d.free(p) && d.free(q) && d.rise(p, q) <= 1 }

// step returns the cost of the step from p to q, and 0 if it is not possible.
func (d model) step(p, q api.Pos) int {
	x, y := max(p.X-q.X, q.X-p.X), max(p.Y-q.Y, q.Y-p.Y)
	if p == q || x > 1 || y > 1 || !d.joined(p, q) {
		return 0
	}
	if x+y == 1 {
		return 10 + 5*d.rise(p, q)
	}
	for _, o := range cells(p.X, q.Y, q.X, p.Y) {
		if d.class != api.CFly && (!d.joined(p, o) || !d.joined(o, q)) {
			return 0
		}
	}
	return 14 + 5*d.rise(p, q)
}

// around returns the positions around p by their directions.
func around(p api.Pos) []api.Pos {
	x, y := p.X, p.Y
	return cells(x+1, y, x+1, y+1, x, y+1, x-1, y+1, x-1, y, x-1, y-1, x, y-1, x+1, y-1)
}

// columns returns how many clusters lie beside each other.
func (d model) columns() int { return (d.m.W-1)/8 + 1 }

// of returns the number of the cluster of a cell.
func (d model) of(p api.Pos) int { return p.Y/8*d.columns() + p.X/8 }

// members returns the cells of a cluster.
func (d model) members(cluster int) []api.Pos {
	var list []api.Pos
	x, y := cluster%d.columns()*8, cluster/d.columns()*8
	for i := range 64 {
		if p := at(x+i%8, y+i/8); p.X < d.m.W && p.Y < d.m.H {
			list = append(list, p)
		}
	}
	return list
}

// crossings returns the crossings of all pairs of clusters, by the index of the first cell, which is their order along a border.
func (d model) crossings() map[[2]int][][2]api.Pos {
	all := map[[2]int][][2]api.Pos{}
	for i := range d.m.Cells {
		p := d.at(i)
		for _, q := range cells(p.X+1, p.Y, p.X, p.Y+1) {
			if d.step(p, q) > 0 && d.of(p) != d.of(q) {
				border := [2]int{d.of(p), d.of(q)}
				all[border] = append(all[border], [2]api.Pos{p, q})
			}
		}
	}
	return all
}

// entrances returns the entrances of two clusters with these crossings, of which all runs are found first.
func (d model) entrances(crossings [][2]api.Pos) [][2]api.Pos {
	var runs [][][2]api.Pos
	for i, c := range crossings {
		if i > 0 {
			last := runs[len(runs)-1]
			before := last[len(last)-1]
			if d.step(before[0], c[0]) > 0 && d.step(before[1], c[1]) > 0 {
				runs[len(runs)-1] = append(last, c)
				continue
			}
		}
		runs = append(runs, [][2]api.Pos{c})
	}
	var list [][2]api.Pos
	for _, run := range runs {
		switch len(run) {
		case 1, 2:
			list = append(list, run[0])
		case 3, 4:
			list = append(list, run[1])
		case 5:
			list = append(list, run[2])
		default:
			list = append(list, run[0], run[len(run)-1])
		}
	}
	return list
}

// costs returns the least costs of ways from a that stay in its cluster, which are lowered until no step lowers one; -1 where there is none.
func (d model) costs(a api.Pos) map[api.Pos]int {
	list := map[api.Pos]int{}
	members := d.members(d.of(a))
	for _, p := range members {
		list[p] = -1
	}
	if d.free(a) {
		list[a] = 0
	}
	for changed := true; changed; {
		changed = false
		for _, p := range members {
			for _, q := range around(p) {
				old, inside := list[q]
				step := d.step(p, q)
				if list[p] < 0 || step == 0 || !inside || old >= 0 && old <= list[p]+step {
					continue
				}
				list[q], changed = list[p]+step, true
			}
		}
	}
	return list
}

// sizes returns sides of maps: the least ones, the greatest ones, and those around whole clusters.
func sizes() []int { return []int{1, 2, 7, 8, 9, 15, 16, 17, 24, 25, 31, 32} }

// graph returns the graph, whose links are found for all pairs of nodes.
func (d model) graph() api.Graph {
	costs := map[[2]api.Pos]int{}
	isNode := map[api.Pos]bool{}
	for _, crossings := range d.crossings() {
		for _, pair := range d.entrances(crossings) {
			p, q := pair[0], pair[1]
			isNode[p], isNode[q] = true, true
			costs[pair], costs[[2]api.Pos{q, p}] = d.step(p, q), d.step(p, q)
		}
	}
	g := api.Graph{Class: d.class}
	for i := range d.m.Cells {
		if isNode[d.at(i)] {
			g.Nodes = append(g.Nodes, api.Node{At: d.at(i)})
		}
	}
	for i, n := range g.Nodes {
		inner := d.costs(n.At)
		for j, o := range g.Nodes {
			if cost, ok := costs[[2]api.Pos{n.At, o.At}]; ok {
				g.Links = append(g.Links, api.Link{From: i, To: j, Cost: cost})
			} else if cost := inner[o.At]; cost > 0 {
				g.Links = append(g.Links, api.Link{From: i, To: j, Cost: cost})
			}
		}
	}
	return g
}

// extended returns the edges of the extended graph from one vertex to another one, where the vertices behind the nodes are a and b.
func (d model) extended(g api.Graph, a, b api.Pos) map[[2]int]int {
	edges := map[[2]int]int{}
	vertexA, vertexB := len(g.Nodes), len(g.Nodes)+1
	fromA, toB := d.costs(a), d.costs(b)
	for i, n := range g.Nodes {
		if cost, ok := fromA[n.At]; ok && cost >= 0 {
			edges[[2]int{vertexA, i}] = cost
		}
		if cost, ok := toB[n.At]; ok && cost >= 0 {
			edges[[2]int{i, vertexB}] = cost
		}
	}
	if cost, ok := fromA[b]; ok && cost >= 0 {
		edges[[2]int{vertexA, vertexB}] = cost
	}
	for _, l := range g.Links {
		edges[[2]int{l.From, l.To}] = l.Cost
	}
	return edges
}

// distances returns the distances of the vertices, which are lowered until no edge lowers one; -1 where there is no way.
func distances(edges map[[2]int]int, vertices int) []int {
	list := slices.Repeat([]int{-1}, vertices)
	list[vertices-1] = 0
	for changed := true; changed; {
		changed = false
		for ends, cost := range edges {
			from, to := ends[0], ends[1]
			if list[to] >= 0 && (list[from] < 0 || list[from] > list[to]+cost) {
				list[from], changed = list[to]+cost, true
			}
		}
	}
	return list
}

// path returns the path from a to b and its cost; nothing and -1 if there is none.
func (d model) path(g api.Graph, a, b api.Pos) ([]api.Pos, int) {
	edges := d.extended(g, a, b)
	vertexA, vertexB := len(g.Nodes), len(g.Nodes)+1
	left := distances(edges, vertexB+1)
	if left[vertexA] < 0 {
		return nil, -1
	}
	path := []api.Pos{a}
	for v := vertexA; v != vertexB; {
		fits := func(to int) bool {
			cost, ok := edges[[2]int{v, to}]
			return ok && left[to] >= 0 && cost+left[to] == left[v]
		}
		next, end := vertexB, b
		if !fits(vertexB) {
			for next = 0; !fits(next); {
				next++
			}
			end = g.Nodes[next].At
		}
		v = next
		path = d.walk(path, end)
	}
	return path, left[vertexA]
}

// walk returns the path with the cells up to end behind it, which is in the cluster of the last cell or beside it.
func (d model) walk(path []api.Pos, end api.Pos) []api.Pos {
	if d.of(path[len(path)-1]) != d.of(end) {
		return append(path, end)
	}
	rests := d.costs(end)
	for path[len(path)-1] != end {
		p := path[len(path)-1]
		best := api.Pos{}
		least := maxInt
		for _, q := range around(p) {
			rest, inside := rests[q]
			if step := d.step(p, q); step > 0 && inside && rest >= 0 && step+rest < least {
				best, least = q, step+rest
			}
		}
		path = append(path, best)
	}
	return path
}
