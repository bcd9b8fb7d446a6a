package hier_test

import (
	"math/rand"
	"slices"
	"testing"

	"skirmish/api"
	"skirmish/hier"
)

// built returns the graph of a valid map.
func built(t *testing.T, m api.Map, blocked []bool, class int) api.Graph {
	t.Helper()
	g, e := hier.Build(m, blocked, class)
	if e != api.OK {
		t.Fatalf("Build for the class %d of %v: %d", class, m, e)
	}
	return g
}

// P16.2: changes by hand, of a cell and of a blocked cell.
func TestUpdate(t *testing.T) {
	open := flat(17, 2)
	g := built(t, open, nil, api.CFoot)
	closed := drawn("........#........", "........#........")
	want := linked(api.CFoot, cells(15, 0, 16, 0), [3]int{0, 1, 10}, [3]int{1, 0, 10})
	h, e := hier.Update(g, closed, nil, cells(8, 0, 8, 1))
	if !equal(h, want) || e != api.OK {
		t.Errorf("Update with a wall: %v, %d, want %v", h, e, want)
	}
	if k, e := hier.Update(h, open, nil, cells(8, 1, 8, 0)); !equal(k, g) || e != api.OK {
		t.Errorf("Update without the wall: %v, %d, want %v", k, e, g)
	}
	blocked := make([]bool, 26)
	blocked[8], blocked[25] = true, true
	if k, e := hier.Update(g, open, blocked, cells(8, 0, 8, 1)); !equal(k, want) || e != api.OK {
		t.Errorf("Update with blocked cells: %v, %d, want %v", k, e, want)
	}
	// The cells of a list need not be different, nor changed, nor inside.
	list := append(outside(17, 2), cells(8, 1, 8, 0, 8, 1, 0, 0, 16, 1)...)
	if k, e := hier.Update(g, closed, nil, list); !equal(k, want) || e != api.OK {
		t.Errorf("Update with a long list: %v, %d, want %v", k, e, want)
	}
	if k, e := hier.Update(g, open, nil, nil); !equal(k, g) || e != api.OK {
		t.Errorf("Update without a change: %v, %d, want %v", k, e, g)
	}
}

// P16.2: what costs more within a cluster, and between two of them.
func TestUpdateOfCosts(t *testing.T) {
	g := built(t, flat(17, 1), nil, api.CFoot)
	high := drawn("............1....")
	want := linked(api.CFoot, cells(7, 0, 8, 0, 15, 0, 16, 0), [3]int{0, 1, 10}, [3]int{1, 0, 10}, [3]int{1, 2, 80}, [3]int{2, 1, 80}, [3]int{2, 3, 10}, [3]int{3, 2, 10})
	if h, e := hier.Update(g, high, nil, cells(12, 0)); !equal(h, want) || e != api.OK {
		t.Errorf("Update of a cell: %v, %d, want %v", h, e, want)
	}
	high = drawn("........1........")
	want = linked(api.CFoot, cells(7, 0, 8, 0, 15, 0, 16, 0), [3]int{0, 1, 15}, [3]int{1, 0, 15}, [3]int{1, 2, 75}, [3]int{2, 1, 75}, [3]int{2, 3, 10}, [3]int{3, 2, 10})
	if h, e := hier.Update(g, high, nil, cells(8, 0)); !equal(h, want) || e != api.OK {
		t.Errorf("Update of a cell at a border: %v, %d, want %v", h, e, want)
	}
}

// P16.2: each single cell of a map, whose change adds, moves and removes entrances of its borders.
func TestUpdateOfEachCell(t *testing.T) {
	before := flat(17, 10)
	for class := api.CFoot; class <= api.CFly; class++ {
		g := built(t, before, nil, class)
		for i := range before.Cells {
			after := flat(17, 10)
			after.Cells[i] = api.Cell{Kind: api.TWater, Height: 1 + i%3}
			p := at(i%17, i/17)
			want := built(t, after, nil, class)
			h, e := hier.Update(g, after, nil, []api.Pos{p})
			if !equal(h, want) || e != api.OK {
				t.Fatalf("Update of %v for the class %d: %v, %d, want %v", p, class, h, e, want)
			}
			if k, e := hier.Update(h, before, nil, []api.Pos{p}); !equal(k, g) || e != api.OK {
				t.Fatalf("Update back of %v for the class %d: %v, %d, want %v", p, class, k, e, g)
			}
		}
	}
}

// change returns another map and other blocked cells, and the cells that have changed.
func (d model) change(random *rand.Rand) (model, []api.Pos) {
	m := d.m
	m.Cells = slices.Clone(m.Cells)
	blocked := append(slices.Clone(d.blocked), make([]bool, random.Intn(9))...)
	fresh := randomMap(random, m.W, m.H, 9)
	var list []api.Pos
	for range random.Intn(4) {
		i := random.Intn(len(m.Cells))
		if random.Intn(2) == 0 {
			m.Cells[i] = fresh.Cells[i]
		} else if i < len(blocked) {
			blocked[i] = !blocked[i]
		}
		list = append(list, d.at(i))
	}
	random.Shuffle(len(list), func(i, j int) { list[i], list[j] = list[j], list[i] })
	return model{m, blocked, d.class}, list
}

// P16.2: change after change on random maps.
func TestUpdateOfRandomMaps(t *testing.T) {
	random := rand.New(rand.NewSource(162))
	for i := range 24 {
		m := randomMap(random, 1+random.Intn(32), 1+random.Intn(32), i%6)
		d := model{m, randomBlocked(random, m), api.CFoot + i%3}
		g := built(t, m, d.blocked, d.class)
		for j := range 20 {
			next, list := d.change(random)
			h, e := hier.Update(g, next.m, next.blocked, list)
			want := built(t, next.m, next.blocked, next.class)
			if j == 19 {
				want = next.graph()
			}
			if !equal(h, want) || e != api.OK {
				t.Fatalf("Update for the class %d from %v, %v to %v, %v with %v: %v, %d, want %v", d.class, d.m, d.blocked, next.m, next.blocked, list, h, e, want)
			}
			d, g = next, h
		}
	}
}

// P16.2: maps and classes that are not valid.
func TestUpdateOfInvalid(t *testing.T) {
	check := func(m api.Map, class int) {
		t.Helper()
		g := built(t, flat(16, 8), nil, api.CFoot)
		g.Class = class
		if h, e := hier.Update(g, m, []bool{true}, cells(0, 0)); !equal(h, api.Graph{}) || e != api.ErrArg {
			t.Errorf("Update for the class %d of %v: %v, %d", class, m, h, e)
		}
	}
	for _, m := range invalidMaps() {
		for class := range 5 {
			check(m, class)
		}
	}
	for _, class := range noClasses() {
		check(flat(16, 8), class)
	}
}

// P16.2: the arguments stay as they are, and a result is new memory.
func TestUpdateKeepsArguments(t *testing.T) {
	m, blocked, list := flat(17, 9), make([]bool, 9), cells(8, 0)
	g := built(t, m, blocked, api.CFoot)
	want := built(t, m, blocked, api.CFoot)
	blocked[8] = true
	hier.Update(g, m, blocked, list)
	if !equal(g, want) || !slices.Equal(m.Cells, flat(17, 9).Cells) || slices.Index(blocked, true) != 8 || !slices.Equal(list, cells(8, 0)) {
		t.Errorf("Update has changed an argument: %v, %v, %v, %v", g, m, blocked, list)
	}
	h, _ := hier.Update(g, m, nil, nil)
	for i := range h.Nodes {
		h.Nodes[i] = api.Node{}
	}
	for i := range h.Links {
		h.Links[i] = api.Link{}
	}
	if !equal(g, want) {
		t.Errorf("the result of Update shares memory with the graph: %v", g)
	}
}
