package flow_test

import (
	"math"
	"math/rand"
	"slices"
	"strings"

	"skirmish/api"
)

const (
	maxInt = math.MaxInt
	minInt = math.MinInt
)

func at(x, y int) api.Pos { return api.Pos{X: x, Y: y} }

// cells returns a list of cells from their coordinates.
func cells(numbers ...int) []api.Pos {
	var list []api.Pos
	for i := 0; i < len(numbers); i += 2 {
		list = append(list, at(numbers[i], numbers[i+1]))
	}
	return list
}

func flat(w, h int) api.Map {
	return api.Map{W: w, H: h, Cells: slices.Repeat([]api.Cell{{Kind: api.TGround}}, w*h)}
}

// drawn returns a map from its rows: a digit is ground of that height, another character flat terrain of a kind, and a point flat ground.
func drawn(rows ...string) api.Map {
	kinds := map[rune]int{'~': api.TWater, '#': api.TRock, '*': api.TForest, '$': api.TOre}
	m := flat(len(rows[0]), len(rows))
	for i, char := range strings.Join(rows, "") {
		if kind, ok := kinds[char]; ok {
			m.Cells[i].Kind = kind
		} else if char != '.' {
			m.Cells[i].Height = int(char - '0')
		}
		if char == '*' || char == '$' {
			m.Cells[i].Amount = 9
		}
	}
	return m
}

// randomMap returns a valid map of random terrain; the greater rough is, the less of it is flat ground.
func randomMap(random *rand.Rand, w, h, rough int) api.Map {
	m := flat(w, h)
	for i := range m.Cells {
		if random.Intn(10) < rough {
			m.Cells[i] = api.Cell{Kind: 1 + random.Intn(5), Height: random.Intn(4)}
		}
		if m.Cells[i].Kind == api.TForest || m.Cells[i].Kind == api.TOre {
			m.Cells[i].Amount = 1 + random.Intn(api.MaxAmount)
		}
	}
	return m
}

// randomBlocked returns a list of any length, from none to more than a map needs.
func randomBlocked(random *rand.Rand, m api.Map) []bool {
	blocked := make([]bool, random.Intn(len(m.Cells)+9))
	for i := range blocked {
		blocked[i] = random.Intn(6) == 0
	}
	return blocked
}

// invalidMaps returns maps that are not formed, or have a cell that is not valid.
func invalidMaps() []api.Map {
	ground := flat(32, 32).Cells
	list := []api.Map{
		{}, {W: 1, H: 1}, {Cells: ground[:1]}, {W: 2}, {W: 2, H: 2, Cells: ground[:3]}, {W: 2, H: 2, Cells: ground[:5]}, {W: 33, H: 1, Cells: ground[:33]}, {W: 1, H: 33, Cells: ground[:33]},
		{W: 64, H: 16, Cells: ground}, {W: -1, H: -1, Cells: ground[:1]}, {W: 1 << 32, H: 1 << 32}, {W: minInt, H: minInt}, {W: maxInt, H: maxInt, Cells: ground[:1]},
	}
	for _, c := range []api.Cell{{}, {Kind: 6}, {Kind: -1}, {Kind: 1, Height: 4}, {Kind: 1, Height: -1}, {Kind: 1, Amount: 1}, {Kind: 4}, {Kind: 5}, {Kind: 5, Amount: -1}, {Kind: 4, Amount: api.MaxAmount + 1}, {Kind: maxInt, Height: minInt}} {
		for i := range 6 {
			m := flat(3, 2)
			m.Cells[i] = c
			list = append(list, m)
		}
	}
	return list
}

// noClasses returns numbers that are no movement class.
func noClasses() []int {
	return []int{0, 4, 5, -1, -2, -3, 256 + 1, 1<<32 + 1, maxInt, minInt}
}

// outside returns positions outside a map of w by h cells.
func outside(w, h int) []api.Pos {
	return []api.Pos{at(-1, 0), at(0, -1), at(w, 0), at(0, h), at(w-1, h), at(w, h-1), at(-1, h), at(-1, 1), at(w, h), at(maxInt, 0), at(0, maxInt), at(minInt, 0), at(0, minInt), at(minInt, maxInt), at(1<<32, 0), at(0, 1<<32), at(1<<20, 1<<20)}
}

// model says by the words of the chapters 7, 14 and 17 what fields there are in a valid map, without calling the program.
type model struct {
	m       api.Map
	blocked []bool
	class   int
}

func (d model) cell(p api.Pos) api.Cell { return d.m.Cells[p.Y*d.m.W+p.X] }

func (d model) at(i int) api.Pos { return at(i%d.m.W, i/d.m.W) }

func (d model) index(p api.Pos) int { return p.Y*d.m.W + p.X }

func (d model) free(p api.Pos) bool {
	if p.X < 0 || p.Y < 0 || p.X >= d.m.W || p.Y >= d.m.H {
		return false
	}
	if d.class == api.CFly {
		return true
	}
	kind := d.cell(p).Kind
	if kind != api.TGround && kind != api.TOre && (kind != api.TWater || d.class == api.CFoot) {
		return false
	}
	return d.index(p) >= len(d.blocked) || !d.blocked[d.index(p)]
}

func (d model) rise(p, q api.Pos) int {
	if d.class == api.CFly {
		return 0
	}
	rise := d.cell(p).Height - d.cell(q).Height
	return max(rise, -rise)
}

func (d model) joined(p, q api.Pos) bool { return d.free(p) && d.free(q) && d.rise(p, q) <= 1 }

// step returns the cost of the step from p to q, and 0 if it is not possible.
func (d model) step(p, q api.Pos) int {
	x, y := max(p.X-q.X, q.X-p.X), max(p.Y-q.Y, q.Y-p.Y)
	if p == q || x > 1 || y > 1 || !d.joined(p, q) {
		return 0
	}
	if x+y == 1 {
		return 10 + 5*d.rise(p, q)
	}
	for _, o := range cells(p.X, q.Y, q.X, p.Y) {
		if d.class != api.CFly && (!d.joined(p, o) || !d.joined(o, q)) {
			return 0
		}
	}
	return 14 + 5*d.rise(p, q)
}

// around returns the positions around p by their directions.
func around(p api.Pos) []api.Pos {
	x, y := p.X, p.Y
	return cells(x+1, y, x+1, y+1, x, y+1, x-1, y+1, x-1, y, x-1, y-1, x, y-1, x+1, y-1)
}

// distances returns the least costs of ways to a goal, which are lowered until no step lowers one; -1 where there is none.
func (d model) distances(goals []api.Pos) []int {
	list := slices.Repeat([]int{-1}, len(d.m.Cells))
	for _, p := range goals {
		list[d.index(p)] = 0
	}
	for changed := true; changed; {
		changed = false
		for i, n := range list {
			for _, q := range around(d.at(i)) {
				if n < 0 || d.step(d.at(i), q) == 0 {
					continue
				}
				j, cost := d.index(q), n+d.step(d.at(i), q)
				if list[j] < 0 || cost < list[j] {
					list[j], changed = cost, true
				}
			}
		}
	}
	return list
}

// direction returns the least direction of the steps from p behind which the whole way costs least; -1 if there is none.
func (d model) direction(costs []int, p api.Pos) int {
	best, least := -1, maxInt
	for dir, q := range around(p) {
		step := d.step(p, q)
		if step == 0 || costs[d.index(q)] < 0 {
			continue
		}
		if cost := step + costs[d.index(q)]; cost < least {
			best, least = dir, cost
		}
	}
	return best
}

// field returns the field of goals that are free.
func (d model) field(goals []api.Pos) api.Field {
	f := api.Field{Class: d.class, Goals: goals, Cost: d.distances(goals)}
	for i, cost := range f.Cost {
		dir := -1
		if cost > 0 {
			dir = d.direction(f.Cost, d.at(i))
		}
		f.Dir = append(f.Dir, dir)
	}
	return f
}

// build returns what Build does for any goals.
func (d model) build(goals []api.Pos) (api.Field, api.Errno) {
	if len(goals) == 0 || len(goals) > 8 {
		return api.Field{}, api.ErrLimit
	}
	e := api.OK
	for _, p := range goals {
		if p.X < 0 || p.Y < 0 || p.X >= d.m.W || p.Y >= d.m.H {
			return api.Field{}, api.ErrArg
		}
		if !d.free(p) {
			e = api.ErrBlocked
		}
	}
	if e != api.OK {
		return api.Field{}, e
	}
	return d.field(goals), api.OK
}

// randomModel returns a random map with blocked cells and a class.
func randomModel(random *rand.Rand, side, rough int) model {
	m := randomMap(random, 1+random.Intn(side), 1+random.Intn(side), rough)
	return model{m, randomBlocked(random, m), api.CFoot + random.Intn(3)}
}

// randomGoals returns up to three goals, most of which are free; some of them are the same.
func (d model) randomGoals(random *rand.Rand) []api.Pos {
	goals := []api.Pos{}
	for range 1 + random.Intn(3) {
		p := d.at(random.Intn(len(d.m.Cells)))
		for n := 0; n < 20 && !d.free(p); n++ {
			p = d.at(random.Intn(len(d.m.Cells)))
		}
		goals = append(goals, p)
	}
	return goals
}

// maze returns the greatest map, with walls that leave only a gap at one end, by turns, and hills all the way.
func maze() api.Map {
	m := flat(api.MaxSide, api.MaxSide)
	for i := range m.Cells {
		x, y := i%m.W, i/m.W
		m.Cells[i].Height = (x + y) % 2
		if y%4 == 1 && x < m.W-1 || y%4 == 3 && x > 0 {
			m.Cells[i] = api.Cell{Kind: api.TRock}
		}
	}
	return m
}

// equal compares two fields without calling the program.
func equal(f, g api.Field) bool {
	return f.Class == g.Class && slices.Equal(f.Goals, g.Goals) && slices.Equal(f.Cost, g.Cost) && slices.Equal(f.Dir, g.Dir)
}

// clone returns the field in memory of its own.
func clone(f api.Field) api.Field {
	return api.Field{Class: f.Class, Goals: slices.Clone(f.Goals), Cost: slices.Clone(f.Cost), Dir: slices.Clone(f.Dir)}
}
