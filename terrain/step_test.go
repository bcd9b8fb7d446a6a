package terrain_test

import (
	"math/rand"
	"testing"

	"skirmish/api"
	"skirmish/terrain"
)

// classes are the movement classes, and numbers that are none.
func classes() []int {
	return []int{api.CFoot, api.CHover, api.CFly, 0, 4, 5, -1, -3, 256 + 1, 1<<32 + 1, maxInt, minInt}
}

// passable tells by the words of the chapter whether a kind inside a map is passable for a class.
func passable(kind, class int) bool {
	switch class {
	case api.CFoot:
		return kind == api.TGround || kind == api.TOre
	case api.CHover:
		return kind == api.TGround || kind == api.TOre || kind == api.TWater
	}
	return class == api.CFly
}

// model says by the words of the chapter what steps are possible in a formed map.
type model struct {
	m       api.Map
	blocked []bool
	class   int
}

func (d model) cell(p api.Pos) api.Cell { return d.m.Cells[p.Y*d.m.W+p.X] }

func (d model) open(p api.Pos) bool {
	if p.X < 0 || p.Y < 0 || p.X >= d.m.W || p.Y >= d.m.H || !passable(d.cell(p).Kind, d.class) {
		return false
	}
	n := p.Y*d.m.W + p.X
	return d.class == api.CFly || n >= len(d.blocked) || !d.blocked[n]
}

// near tells whether the heights of two open cells differ by at most 1, without computing a difference.
func (d model) near(p, q api.Pos) bool {
	a, b := d.cell(p).Height, d.cell(q).Height
	return d.class == api.CFly || a == b || a < b && a+1 == b || b < a && b+1 == a
}

func (d model) straight(p, q api.Pos) bool { return d.open(p) && d.open(q) && d.near(p, q) }

func (d model) step(p, q api.Pos) (int, bool) {
	if !d.straight(p, q) {
		return 0, false
	}
	cost := 10
	if p.X != q.X && p.Y != q.Y {
		cost = 14
		for _, o := range []api.Pos{at(p.X, q.Y), at(q.X, p.Y)} {
			if d.class != api.CFly && (!d.straight(p, o) || !d.straight(o, q)) {
				return 0, false
			}
		}
	}
	if d.class != api.CFly && d.cell(p).Height != d.cell(q).Height {
		cost += 5
	}
	return cost, true
}

// moved returns the neighbor of p in a direction.
func moved(p api.Pos, dir int) api.Pos {
	d := [8][2]int{{1, 0}, {1, 1}, {0, 1}, {-1, 1}, {-1, 0}, {-1, -1}, {0, -1}, {1, -1}}[dir]
	return at(p.X+d[0], p.Y+d[1])
}

// compare compares all steps in a map and around it with the model.
func compare(t *testing.T, m api.Map, blocked []bool) {
	t.Helper()
	for _, class := range []int{api.CFoot, api.CHover, api.CFly, 0, 4} {
		d := model{m, blocked, class}
		for y := -2; y < m.H+2; y++ {
			for x := -2; x < m.W+2; x++ {
				for dir := range 8 {
					cost, ok := terrain.Step(m, blocked, class, at(x, y), dir)
					want, wantOK := d.step(at(x, y), moved(at(x, y), dir))
					if cost != want || ok != wantOK {
						t.Fatalf("Step of class %d from (%d, %d) in direction %d in %v, blocked %v: %d, %v, want %d, %v", class, x, y, dir, m, blocked, cost, ok, want, wantOK)
					}
				}
			}
		}
	}
}

// P7.3
func TestPassable(t *testing.T) {
	for _, kind := range numbers() {
		m := newMap(2, 1, cell(api.TRock, 0, 0), cell(kind, 0, 0))
		for _, class := range classes() {
			if ok := terrain.Passable(m, class, at(1, 0)); ok != passable(kind, class) {
				t.Errorf("Passable of the kind %d for the class %d = %v", kind, class, ok)
			}
		}
	}
	for _, class := range classes() {
		for _, p := range outside(3, 2) {
			if terrain.Passable(flat(3, 2), class, p) {
				t.Errorf("%v is passable for the class %d, but outside", p, class)
			}
		}
		for _, m := range badlyFormed() {
			if terrain.Passable(m, class, at(0, 0)) {
				t.Errorf("a map of %d by %d with %d cells has a cell that is passable for the class %d", m.W, m.H, len(m.Cells), class)
			}
		}
	}
}

// P7.3: heights do not matter.
func TestPassableAtAllHeights(t *testing.T) {
	for _, height := range numbers() {
		m := newMap(1, 2, cell(api.TGround, height, 0), cell(api.TWater, height, 0))
		for _, class := range []int{api.CFoot, api.CHover, api.CFly} {
			if !terrain.Passable(m, class, at(0, 0)) || terrain.Passable(m, class, at(0, 1)) != (class != api.CFoot) {
				t.Errorf("Passable at the height %d for the class %d", height, class)
			}
		}
		if terrain.Opaque(m, at(0, 0)) || terrain.Opaque(m, at(0, 1)) {
			t.Errorf("Opaque at the height %d", height)
		}
	}
}

// P7.3
func TestOpaque(t *testing.T) {
	for _, kind := range numbers() {
		m := newMap(1, 2, cell(api.TGround, 0, 0), cell(kind, 0, 0))
		if terrain.Opaque(m, at(0, 1)) != (kind == api.TRock || kind == api.TForest) {
			t.Errorf("Opaque of the kind %d", kind)
		}
	}
	for _, p := range outside(3, 2) {
		if !terrain.Opaque(flat(3, 2), p) {
			t.Errorf("%v is not opaque, but outside", p)
		}
	}
	for _, m := range badlyFormed() {
		if !terrain.Opaque(m, at(0, 0)) {
			t.Errorf("a map of %d by %d with %d cells has a cell that is not opaque", m.W, m.H, len(m.Cells))
		}
	}
}

// P7.4: the examples of the chapter.
func TestStepExamples(t *testing.T) {
	raised := func(height int) api.Map {
		m := flat(2, 2)
		m.Cells[3].Height = height
		return m
	}
	cases := []struct {
		m       api.Map
		blocked []bool
		class   int
		p       api.Pos
		dir     int
		cost    int
		ok      bool
	}{
		{flat(2, 2), nil, api.CFoot, at(0, 0), 1, 14, true}, {flat(2, 2), []bool{false, true}, api.CFoot, at(0, 0), 1, 0, false}, {flat(2, 2), []bool{false, true}, api.CFly, at(0, 0), 1, 14, true},
		{raised(1), nil, api.CFoot, at(1, 0), 2, 15, true}, {raised(1), nil, api.CFoot, at(0, 0), 1, 19, true}, {raised(1), nil, api.CFly, at(1, 0), 2, 10, true}, {raised(1), nil, api.CFly, at(0, 0), 1, 14, true},
		{raised(2), nil, api.CFoot, at(1, 0), 2, 0, false}, {raised(2), nil, api.CFoot, at(0, 0), 1, 0, false}, {raised(2), nil, api.CFly, at(1, 0), 2, 10, true}, {raised(2), nil, api.CFly, at(0, 0), 1, 14, true},
	}
	for i, c := range cases {
		if cost, ok := terrain.Step(c.m, c.blocked, c.class, c.p, c.dir); cost != c.cost || ok != c.ok {
			t.Errorf("example %d: %d, %v, want %d, %v", i, cost, ok, c.cost, c.ok)
		}
	}
}

// P7.4: all squares of four cells with these kinds and heights.
func TestStepsOfSquares(t *testing.T) {
	sorts := []api.Cell{cell(api.TGround, 0, 0), cell(api.TGround, 1, 0), cell(api.TGround, 2, 0), cell(api.TWater, 0, 0), cell(api.TWater, 1, 0), cell(api.TRock, 0, 0), cell(api.TOre, 1, 3)}
	n := len(sorts)
	for i := range n * n * n * n {
		m := newMap(2, 2, sorts[i%n], sorts[i/n%n], sorts[i/n/n%n], sorts[i/n/n/n])
		compare(t, m, nil)
	}
}

// P7.4: all squares of four cells, blocked or not, with steps of height.
func TestStepsOfBlockedSquares(t *testing.T) {
	for i := range 256 {
		m := flat(2, 2)
		blocked := make([]bool, 4)
		for n := range 4 {
			m.Cells[n].Height = i >> n & 1
			blocked[n] = i>>(n+4)&1 == 1
		}
		// Lists of any length: what is missing is not blocked, and what is beyond the map is ignored.
		for length := range 5 {
			compare(t, m, blocked[:length])
		}
		compare(t, m, append(blocked, true, true, true, true, true))
	}
}

// randomCell returns a cell, which is often not valid.
func randomCell(random *rand.Rand) api.Cell {
	list := numbers()
	switch random.Intn(4) {
	case 0:
		return cell(list[random.Intn(len(list))], list[random.Intn(len(list))], list[random.Intn(len(list))])
	case 1:
		return cell(random.Intn(7), random.Intn(5)-1, random.Intn(3))
	}
	return cell(api.TGround, random.Intn(3), 0)
}

// P7.4: maps of all forms, also with cells that are not valid.
func TestStepsOfRandomMaps(t *testing.T) {
	random := rand.New(rand.NewSource(77))
	for i := range 2000 {
		m := randomMap(random, 1+random.Intn(5), 1+random.Intn(5))
		for n := range m.Cells {
			if i%2 == 0 {
				m.Cells[n] = randomCell(random)
			}
		}
		blocked := make([]bool, random.Intn(30))
		for n := range blocked {
			blocked[n] = random.Intn(5) == 0
		}
		compare(t, m, blocked)
	}
}

// P7.4: the difference of two heights may be no int.
func TestStepsBetweenExtremeHeights(t *testing.T) {
	for _, a := range numbers() {
		for _, b := range numbers() {
			compare(t, newMap(2, 1, cell(api.TGround, a, 0), cell(api.TWater, b, 0)), nil)
			compare(t, newMap(1, 2, cell(api.TGround, a, 0), cell(api.TOre, b, 0)), nil)
			compare(t, newMap(2, 2, cell(api.TGround, a, 0), cell(api.TGround, a, 0), cell(api.TGround, b, 0), cell(api.TGround, b, 0)), nil)
		}
	}
}

// P7.4: numbers that are no direction.
func TestStepInNoDirection(t *testing.T) {
	for _, dir := range []int{-1, -2, -7, -8, 8, 9, 15, 16, 256, 1 << 32, maxInt, minInt} {
		for _, class := range []int{api.CFoot, api.CHover, api.CFly} {
			if cost, ok := terrain.Step(flat(5, 5), nil, class, at(2, 2), dir); cost != 0 || ok {
				t.Errorf("Step of class %d in direction %d = %d, %v", class, dir, cost, ok)
			}
		}
	}
}

// P7.4: steps of no class, from outside, into the outside, and in maps that are not formed.
func TestStepOutside(t *testing.T) {
	check := func(m api.Map, class int, p api.Pos) {
		t.Helper()
		for dir := range 8 {
			if cost, ok := terrain.Step(m, nil, class, p, dir); cost != 0 || ok {
				t.Errorf("Step of class %d from %v in direction %d in a map of %d by %d = %d, %v", class, p, dir, m.W, m.H, cost, ok)
			}
		}
	}
	for _, class := range classes() {
		for _, p := range outside(3, 2) {
			check(flat(3, 2), class, p)
		}
		for _, m := range badlyFormed() {
			for _, p := range []api.Pos{at(0, 0), at(1, 1), at(-1, 0)} {
				check(m, class, p)
			}
		}
		check(flat(1, 1), class, at(0, 0))
		if class < api.CFoot || class > api.CFly {
			check(flat(3, 3), class, at(1, 1))
		}
	}
	compare(t, flat(32, 32), nil)
}

// P7.7
func TestStepsAreSymmetrical(t *testing.T) {
	random := rand.New(rand.NewSource(777))
	for range 1000 {
		m := randomMap(random, 1+random.Intn(6), 1+random.Intn(6))
		blocked := make([]bool, random.Intn(40))
		for n := range blocked {
			blocked[n] = random.Intn(6) == 0
		}
		for i := range m.Cells {
			p := at(i%m.W, i/m.W)
			for dir := range 8 {
				for _, class := range classes() {
					cost, ok := terrain.Step(m, blocked, class, p, dir)
					back, backOK := terrain.Step(m, blocked, class, moved(p, dir), (dir+4)%8)
					if cost != back || ok != backOK {
						t.Fatalf("Step of class %d from %v in direction %d in %v, blocked %v: %d, %v, but back %d, %v", class, p, dir, m, blocked, cost, ok, back, backOK)
					}
				}
			}
		}
	}
}

// P7.8
func TestStepsOfClasses(t *testing.T) {
	random := rand.New(rand.NewSource(7777))
	var onFoot, hovering, flying int
	for range 1000 {
		m := randomMap(random, 1+random.Intn(6), 1+random.Intn(6))
		blocked := []bool{random.Intn(2) == 0, random.Intn(2) == 0, random.Intn(2) == 0}
		for i := range m.Cells {
			for dir := range 8 {
				p := at(i%m.W, i/m.W)
				foot, footOK := terrain.Step(m, blocked, api.CFoot, p, dir)
				hover, hoverOK := terrain.Step(m, blocked, api.CHover, p, dir)
				fly, flyOK := terrain.Step(m, blocked, api.CFly, p, dir)
				if footOK && (!hoverOK || foot != hover) || hoverOK && (!flyOK || fly > hover) {
					t.Fatalf("Step from %v in direction %d in %v: %d, %v on foot, %d, %v hovering, %d, %v flying", p, dir, m, foot, footOK, hover, hoverOK, fly, flyOK)
				}
				if footOK {
					onFoot++
				}
				if hoverOK {
					hovering++
				}
				if flyOK {
					flying++
				}
			}
		}
	}
	if onFoot == 0 || onFoot >= hovering || hovering >= flying {
		t.Errorf("%d steps on foot, %d hovering, %d flying", onFoot, hovering, flying)
	}
}

// P7.4: the list of blocked cells and the map are not changed.
func TestStepChangesNothing(t *testing.T) {
	m, blocked := sample(), make([]bool, 3, 10)
	for dir := range 8 {
		for _, class := range classes() {
			terrain.Step(m, blocked, class, at(1, 1), dir)
			terrain.Passable(m, class, at(1, 1))
		}
	}
	if !equal(m, sample()) || blocked[0] || blocked[1] || blocked[2] || blocked[:4][3] {
		t.Error("Step changed an argument")
	}
}
