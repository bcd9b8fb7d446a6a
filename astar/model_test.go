package astar_test

import (
	"math"
	"math/rand"
	"slices"
	"strings"

	"skirmish/api"
)

const (
	maxInt = math.MaxInt
	minInt = math.MinInt
)

func at(x, y int) api.Pos { return api.Pos{X: x, Y: y} }

// cells returns a list of cells from their coordinates.
func cells(numbers ...int) []api.Pos {
	var list []api.Pos
	for i := 0; i < len(numbers); i += 2 {
		list = append(list, at(numbers[i], numbers[i+1]))
	}
	return list
}

func flat(w, h int) api.Map {
	return api.Map{W: w, H: h, Cells: slices.Repeat([]api.Cell{{Kind: api.TGround}}, w*h)}
}

// drawn returns a map from its rows: a digit is ground of that height, another character flat terrain of a kind, and a point flat ground.
func drawn(rows ...string) api.Map {
	kinds := map[rune]int{'~': api.TWater, '#': api.TRock, '*': api.TForest, '$': api.TOre}
	m := flat(len(rows[0]), len(rows))
	for i, char := range strings.Join(rows, "") {
		if kind, ok := kinds[char]; ok {
			m.Cells[i].Kind = kind
		} else if char != '.' {
			m.Cells[i].Height = int(char - '0')
		}
		if char == '*' || char == '$' {
			m.Cells[i].Amount = 9
		}
	}
	return m
}

// randomMap returns a valid map of random terrain; the greater rough is, the less of it is flat ground.
func randomMap(random *rand.Rand, w, h, rough int) api.Map {
	m := flat(w, h)
	for i := range m.Cells {
		if random.Intn(10) < rough {
			m.Cells[i] = api.Cell{Kind: 1 + random.Intn(5), Height: random.Intn(4)}
		}
		if m.Cells[i].Kind == api.TForest || m.Cells[i].Kind == api.TOre {
			m.Cells[i].Amount = 1 + random.Intn(api.MaxAmount)
		}
	}
	return m
}

// randomBlocked returns a list of any length, from none to more than a map needs.
func randomBlocked(random *rand.Rand, m api.Map) []bool {
	blocked := make([]bool, random.Intn(len(m.Cells)+9))
	for i := range blocked {
		blocked[i] = random.Intn(6) == 0
	}
	return blocked
}

// invalidMaps returns maps that are not formed, or have a cell that is not valid.
func invalidMaps() []api.Map {
	ground := flat(32, 32).Cells
	list := []api.Map{
		{}, {W: 1, H: 1}, {Cells: ground[:1]}, {W: 2}, {W: 2, H: 2, Cells: ground[:3]}, {W: 2, H: 2, Cells: ground[:5]}, {W: 33, H: 1, Cells: ground[:33]}, {W: 1, H: 33, Cells: ground[:33]},
		{W: 64, H: 16, Cells: ground}, {W: -1, H: -1, Cells: ground[:1]}, {W: 1 << 32, H: 1 << 32}, {W: minInt, H: minInt}, {W: maxInt, H: maxInt, Cells: ground[:1]},
	}
	for _, c := range []api.Cell{{}, {Kind: 6}, {Kind: -1}, {Kind: 1, Height: 4}, {Kind: 1, Height: -1}, {Kind: 1, Amount: 1}, {Kind: 4}, {Kind: 5}, {Kind: 5, Amount: -1}, {Kind: 4, Amount: api.MaxAmount + 1}, {Kind: maxInt, Height: minInt}} {
		for i := range 6 {
			m := flat(3, 2)
			m.Cells[i] = c
			list = append(list, m)
		}
	}
	return list
}

// noClasses returns numbers that are no movement class.
func noClasses() []int {
	return []int{0, 4, 5, -1, -2, -3, 256 + 1, 1<<32 + 1, maxInt, minInt}
}

// outside returns positions outside a map of w by h cells.
func outside(w, h int) []api.Pos {
	return []api.Pos{at(-1, 0), at(0, -1), at(w, 0), at(0, h), at(w-1, h), at(w, h-1), at(-1, h), at(-1, 1), at(w, h), at(maxInt, 0), at(0, maxInt), at(minInt, 0), at(0, minInt), at(minInt, maxInt), at(1<<32, 0), at(0, 1<<32), at(1<<20, 1<<20)}
}

// model says by the words of the chapters 7 and 14 what ways there are in a valid map, without calling the program.
type model struct {
	m       api.Map
	blocked []bool
	class   int
}

func (d model) cell(p api.Pos) api.Cell { return d.m.Cells[p.Y*d.m.W+p.X] }

func (d model) at(i int) api.Pos { return at(i%d.m.W, i/d.m.W) }

func (d model) index(p api.Pos) int { return p.Y*d.m.W + p.X }

func (d model) free(p api.Pos) bool {
	if p.X < 0 || p.Y < 0 || p.X >= d.m.W || p.Y >= d.m.H {
		return false
	}
	if d.class == api.CFly {
		return true
	}
	kind := d.cell(p).Kind
	if kind != api.TGround && kind != api.TOre && (kind != api.TWater || d.class == api.CFoot) {
		return false
	}
	return d.index(p) >= len(d.blocked) || !d.blocked[d.index(p)]
}

func (d model) rise(p, q api.Pos) int {
	if d.class == api.CFly {
		return 0
	}
	rise := d.cell(p).Height - d.cell(q).Height
	return max(rise, -rise)
}

func (d model) joined(p, q api.Pos) bool { return d.free(p) && d.free(q) && d.rise(p, q) <= 1 }

// step returns the cost of the step from p to q, and 0 if it is not possible.
func (d model) step(p, q api.Pos) int {
	x, y := max(p.X-q.X, q.X-p.X), max(p.Y-q.Y, q.Y-p.Y)
	if p == q || x > 1 || y > 1 || !d.joined(p, q) {
		return 0
	}
	if x+y == 1 {
		return 10 + 5*d.rise(p, q)
	}
	for _, o := range cells(p.X, q.Y, q.X, p.Y) {
		if d.class != api.CFly && (!d.joined(p, o) || !d.joined(o, q)) {
			return 0
		}
	}
	return 14 + 5*d.rise(p, q)
}

// around returns the positions around p by their directions.
func around(p api.Pos) []api.Pos {
	x, y := p.X, p.Y
	return cells(x+1, y, x+1, y+1, x, y+1, x-1, y+1, x-1, y, x-1, y-1, x, y-1, x+1, y-1)
}

// distances returns the least costs of ways from a, which are lowered until no step lowers one.
func (d model) distances(a api.Pos) []int {
	list := slices.Repeat([]int{-1}, len(d.m.Cells))
	if !d.free(a) {
		return list
	}
	list[d.index(a)] = 0
	for changed := true; changed; {
		changed = false
		for i, n := range list {
			for _, q := range around(d.at(i)) {
				if n < 0 || d.step(d.at(i), q) == 0 {
					continue
				}
				j, cost := d.index(q), n+d.step(d.at(i), q)
				if list[j] < 0 || cost < list[j] {
					list[j], changed = cost, true
				}
			}
		}
	}
	return list
}

// path returns the way from a to b of the chapter, by the distances from each of its cells, and its cost; false if there is none.
func (d model) path(a, b api.Pos) ([]api.Pos, int, bool) {
	rests := d.distances(b)
	cost := rests[d.index(a)]
	if cost < 0 {
		return nil, 0, false
	}
	path := cells(a.X, a.Y)
	for p := a; p != b; path = append(path, p) {
		best := -1
		var next api.Pos
		for _, q := range around(p) {
			if step := d.step(p, q); step > 0 && (best < 0 || step+rests[d.index(q)] < best) {
				best, next = step+rests[d.index(q)], q
			}
		}
		p = next
	}
	return path, cost, true
}

// regions returns the least indexes of connected cells, which spread until none of them changes.
func (d model) regions() []int {
	list := make([]int, len(d.m.Cells))
	for i := range list {
		list[i] = i
		if !d.free(d.at(i)) {
			list[i] = -1
		}
	}
	for changed := true; changed; {
		changed = false
		for i := range list {
			for _, q := range around(d.at(i)) {
				if d.step(d.at(i), q) > 0 && list[d.index(q)] < list[i] {
					list[i], changed = list[d.index(q)], true
				}
			}
		}
	}
	return list
}

// ways calls found for every way from p to b that continues one over the cells visited and enters no cell twice, with its directions.
func (d model) ways(p, b api.Pos, visited []api.Pos, dirs []int, cost int, found func(cells []api.Pos, dirs []int, cost int)) {
	visited = append(visited, p)
	if p == b {
		found(visited, dirs, cost)
		return
	}
	for dir, q := range around(p) {
		if step := d.step(p, q); step > 0 && !slices.Contains(visited, q) {
			d.ways(q, b, visited, append(dirs, dir), cost+step, found)
		}
	}
}
