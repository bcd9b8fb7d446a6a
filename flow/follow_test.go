package flow_test

import (
	"math/rand"
	"slices"
	"testing"

	"skirmish/api"
	"skirmish/astar"
	"skirmish/flow"
)

// noDirections returns numbers that are no direction.
func noDirections() []int {
	return []int{-1, -2, -7, -8, 8, 9, 15, 16, 255, 256, 1 << 32, maxInt, minInt}
}

// P17.2: each direction, from cells in the middle, at the borders and in the corners.
func TestNext(t *testing.T) {
	for _, m := range []api.Map{flat(3, 3), drawn("#3~", "#.*", "~2$"), flat(4, 2), flat(1, 5), flat(1, 1), flat(32, 32)} {
		d := model{m, nil, api.CFoot}
		f := api.Field{Cost: make([]int, len(m.Cells)), Dir: make([]int, len(m.Cells))}
		for i := range m.Cells {
			p := d.at(i)
			for dir, q := range around(p) {
				f.Dir[i] = dir
				in := q.X >= 0 && q.Y >= 0 && q.X < m.W && q.Y < m.H
				want := q
				if !in {
					want = at(0, 0)
				}
				if next, ok := flow.Next(f, m, p); next != want || ok != in {
					t.Fatalf("Next of %v in the direction %d in %v: %v, %v", p, dir, m, next, ok)
				}
			}
			for _, dir := range noDirections() {
				f.Dir[i] = dir
				if next, ok := flow.Next(f, m, p); next != at(0, 0) || ok {
					t.Fatalf("Next of %v in the direction %d in %v: %v, %v", p, dir, m, next, ok)
				}
			}
			f.Dir[i] = 0
		}
	}
}

// P17.2: the cost, the class and the goals of a field do not matter, nor do the directions of other cells.
func TestNextOfOtherFields(t *testing.T) {
	for _, dir := range append(noDirections(), 4) {
		f := api.Field{Class: dir, Goals: []api.Pos{at(dir, dir), at(0, 0)}, Cost: []int{dir, dir, 0}, Dir: []int{dir, 4, dir}}
		if next, ok := flow.Next(f, drawn("##~"), at(1, 0)); next != at(0, 0) || !ok {
			t.Errorf("Next of %v: %v, %v", f, next, ok)
		}
	}
}

// P17.2 and P17.3: fields that do not fit the map.
func TestFieldsThatDoNotFit(t *testing.T) {
	check := func(f api.Field, m api.Map, p api.Pos) {
		t.Helper()
		if next, ok := flow.Next(f, m, p); next != at(0, 0) || ok {
			t.Errorf("Next of %v from %v in %v: %v, %v", f, p, m, next, ok)
		}
		if path := flow.Follow(f, m, p); len(path) != 0 {
			t.Errorf("Follow of %v from %v in %v: %v", f, p, m, path)
		}
	}
	for _, m := range invalidMaps() {
		n := len(m.Cells)
		check(api.Field{Class: api.CFly, Goals: cells(0, 0), Cost: make([]int, n), Dir: make([]int, n)}, m, at(0, 0))
	}
	for _, n := range []int{0, 1, 5, 7, 12, 1024} {
		check(api.Field{Class: api.CFly, Goals: cells(0, 0), Cost: make([]int, n), Dir: make([]int, 6)}, flat(3, 2), at(0, 0))
		check(api.Field{Class: api.CFly, Goals: cells(0, 0), Cost: make([]int, 6), Dir: make([]int, n)}, flat(3, 2), at(0, 0))
		check(api.Field{Class: api.CFly, Goals: cells(0, 0), Cost: make([]int, n), Dir: make([]int, n)}, flat(3, 2), at(0, 0))
	}
	for _, p := range outside(3, 2) {
		for dir := -1; dir < 8; dir++ {
			check(api.Field{Class: api.CFly, Goals: []api.Pos{p}, Cost: make([]int, 6), Dir: slices.Repeat([]int{dir}, 6)}, flat(3, 2), p)
		}
	}
}

// P17.3: fields found by hand, which Build need not return.
func TestFollow(t *testing.T) {
	cases := []struct {
		what      string
		m         api.Map
		cost, dir []int
		p         api.Pos
		want      []api.Pos
	}{
		{"a goal", flat(1, 1), []int{0}, []int{-1}, at(0, 0), cells(0, 0)},
		{"no goal", flat(1, 1), []int{-1}, []int{-1}, at(0, 0), nil},
		{"a cost without a direction", flat(1, 1), []int{10}, []int{-1}, at(0, 0), nil},
		{"a direction that is none", flat(2, 1), []int{0, 10}, []int{-1, 8}, at(1, 0), nil},
		{"a goal with a direction that is none", flat(2, 1), []int{0, 10}, []int{maxInt, 4}, at(1, 0), cells(1, 0, 0, 0)},
		{"out of the map", flat(2, 1), []int{0, 10}, []int{6, 4}, at(1, 0), cells(1, 0, 0, 0)},
		{"out of the map, from no goal", flat(2, 1), []int{10, 0}, []int{4, 4}, at(0, 0), nil},
		{"a goal at the end of another row", flat(2, 2), []int{10, 10, 0, 10}, []int{-1, 0, -1, 4}, at(1, 0), nil},
		{"all cells of a map", flat(2, 2), []int{30, 20, 0, 10}, []int{0, 2, -1, 4}, at(0, 0), cells(0, 0, 1, 0, 1, 1, 0, 1)},
		{"all cells of a map, and the first one again", flat(2, 2), []int{0, 20, 0, 10}, []int{0, 2, 6, 4}, at(0, 0), nil},
		{"a circle behind the first cell", flat(3, 1), []int{0, 0, 0}, []int{0, 0, 4}, at(0, 0), nil},
		{"a circle beside the way", flat(4, 1), []int{20, 10, 0, 0}, []int{0, -1, 0, 4}, at(0, 0), nil},
		{"a circle elsewhere", flat(4, 1), []int{0, 10, 0, 0}, []int{-1, 4, 0, 4}, at(1, 0), cells(1, 0, 0, 0)},
		{"over a goal to another one", flat(3, 1), []int{0, 0, 0}, []int{0, 0, -1}, at(0, 0), cells(0, 0, 1, 0, 2, 0)},
		{"over a goal to no goal", flat(3, 1), []int{10, 0, 10}, []int{0, 0, -1}, at(0, 0), nil},
		{"over cells without a cost", flat(3, 1), []int{-1, minInt, 0}, []int{0, 0, -1}, at(0, 0), cells(0, 0, 1, 0, 2, 0)},
		{"over cells that are not free", drawn("#*3~"), []int{1, 1, 1, 0}, []int{0, 0, 0, -1}, at(0, 0), cells(0, 0, 1, 0, 2, 0, 3, 0)},
		{"over a corner", drawn(".#", "#."), []int{9, 9, 9, 0}, []int{1, 1, 1, 1}, at(0, 0), cells(0, 0, 1, 1)},
	}
	for _, c := range cases {
		f := api.Field{Class: api.CFoot, Goals: cells(0, 0), Cost: c.cost, Dir: c.dir}
		if path := flow.Follow(f, c.m, c.p); !slices.Equal(path, c.want) {
			t.Errorf("%s: Follow from %v is %v, want %v", c.what, c.p, path, c.want)
		}
	}
}

// walk follows the directions of a field one after the other; it returns nothing where Follow does.
func (d model) walk(f api.Field, p api.Pos) []api.Pos {
	path := cells(p.X, p.Y)
	for range d.m.Cells {
		dir := f.Dir[d.index(p)]
		if dir < 0 || dir > 7 {
			break
		}
		q := around(p)[dir]
		if q.X < 0 || q.Y < 0 || q.X >= d.m.W || q.Y >= d.m.H {
			break
		}
		path = append(path, q)
		p = q
	}
	if len(path) > len(d.m.Cells) || f.Cost[d.index(p)] != 0 {
		return nil
	}
	return path
}

// P17.2 and P17.3: random directions and costs, from each cell.
func TestFollowOfRandomFields(t *testing.T) {
	random := rand.New(rand.NewSource(174))
	for i := range 1000 {
		d := randomModel(random, 7, i%8)
		f := api.Field{Class: random.Intn(5), Goals: cells(random.Intn(5), 0)}
		for range d.m.Cells {
			f.Cost = append(f.Cost, random.Intn(5)-1)
			f.Dir = append(f.Dir, random.Intn(10)-1)
		}
		for j := range d.m.Cells {
			want := d.walk(f, d.at(j))
			if path := flow.Follow(f, d.m, d.at(j)); !slices.Equal(path, want) {
				t.Fatalf("Follow of %v from %v in %v: %v, want %v", f, d.at(j), d.m, path, want)
			}
		}
	}
}

// spiral returns a field that leads over all cells of a map, from row to row by turns, to its end.
func spiral(w, h int) api.Field {
	f := api.Field{Class: api.CFoot}
	for i := range w * h {
		x, y := i%w, i/w
		dir := 0
		switch {
		case y%2 == 0 && x == w-1 || y%2 == 1 && x == 0:
			dir = 2
		case y%2 == 1:
			dir = 4
		}
		f.Cost, f.Dir = append(f.Cost, 0), append(f.Dir, dir)
	}
	return f
}

// P17.3: as many cells as a map has, which is the most that Follow returns.
func TestFollowOverAllCells(t *testing.T) {
	for _, side := range []int{2, 3, 31, 32} {
		m, f := flat(side, side), spiral(side, side)
		path := flow.Follow(f, m, at(0, 0))
		if len(path) != side*side || path[len(path)-1].Y != side-1 {
			t.Errorf("Follow over %d by %d cells: %v", side, side, path)
		}
		end := path[len(path)-1]
		f.Dir[end.Y*side+end.X] = 6
		if path := flow.Follow(f, m, at(0, 0)); len(path) != 0 {
			t.Errorf("Follow over %d by %d cells and back: %v", side, side, path)
		}
	}
}

// P17.6: in fields of Build, Follow returns ways to goals that cost what the field says, and nothing from other cells.
func TestFollowOfBuiltFields(t *testing.T) {
	random := rand.New(rand.NewSource(176))
	for i := range 400 {
		d := randomModel(random, 12, i%8)
		if i%100 == 0 {
			d = model{maze(), nil, api.CFoot + i/100%3}
		}
		goals := d.randomGoals(random)
		f, e := flow.Build(d.m, d.blocked, d.class, goals)
		if e != api.OK {
			continue
		}
		for j, want := range f.Cost {
			path := flow.Follow(f, d.m, d.at(j))
			if want < 0 {
				if len(path) != 0 {
					t.Fatalf("Follow of %v from %v in %v: %v", f, d.at(j), d.m, path)
				}
				continue
			}
			cost, e := astar.Cost(d.m, d.blocked, d.class, path)
			if e != api.OK || cost != want || path[0] != d.at(j) || !slices.Contains(goals, path[len(path)-1]) {
				t.Fatalf("Follow of %v from %v in %v: %v, which costs %d, %d, want %d", f, d.at(j), d.m, path, cost, e, want)
			}
			if next, ok := flow.Next(f, d.m, d.at(j)); ok != (len(path) > 1) || ok && next != path[1] {
				t.Fatalf("Next of %v from %v in %v: %v, %v, want the second one of %v", f, d.at(j), d.m, next, ok, path)
			}
		}
	}
}

// Rule 0.4: Next and Follow do not change the field, and the path is new memory.
func TestFollowKeepsArguments(t *testing.T) {
	m := drawn("..1", "#..")
	f, _ := flow.Build(m, nil, api.CFoot, cells(2, 1))
	want := clone(f)
	path := flow.Follow(f, m, at(0, 0))
	flow.Next(f, m, at(0, 0))
	if !equal(f, want) || !slices.Equal(m.Cells, drawn("..1", "#..").Cells) {
		t.Errorf("the field is %v, want %v; the map is %v", f, want, m)
	}
	other := slices.Clone(path)
	path[0] = at(9, 9)
	if again := flow.Follow(f, m, at(0, 0)); !slices.Equal(again, other) {
		t.Errorf("Follow is %v after a change of its result, want %v", again, other)
	}
}
