package hier_test

import (
	"math/rand"
	"slices"
	"testing"

	"skirmish/api"
	"skirmish/hier"
)

// linked returns a graph from its cells, and the nodes and costs of its links.
func linked(class int, list []api.Pos, links ...[3]int) api.Graph {
	g := api.Graph{Class: class}
	for _, p := range list {
		g.Nodes = append(g.Nodes, api.Node{At: p})
	}
	for _, l := range links {
		g.Links = append(g.Links, api.Link{From: l[0], To: l[1], Cost: l[2]})
	}
	return g
}

// equal compares two graphs without calling the program.
func equal(a, b api.Graph) bool {
	return a.Class == b.Class && slices.Equal(a.Nodes, b.Nodes) && slices.Equal(a.Links, b.Links)
}

// checkBuild compares the result of Build with the model, and returns it.
func checkBuild(t *testing.T, d model) api.Graph {
	t.Helper()
	g, e := hier.Build(d.m, d.blocked, d.class)
	if want := d.graph(); !equal(g, want) || e != api.OK {
		t.Fatalf("Build for the class %d of %v with %v: %v, %d, want %v", d.class, d.m, d.blocked, g, e, want)
	}
	return g
}

// P16.1: the examples of the chapter.
func TestBuildExample(t *testing.T) {
	m := flat(16, 8)
	g, e := hier.Build(m, nil, api.CFoot)
	want := linked(api.CFoot, cells(7, 0, 8, 0, 7, 7, 8, 7), [3]int{0, 1, 10}, [3]int{0, 2, 70}, [3]int{1, 0, 10}, [3]int{1, 3, 70}, [3]int{2, 0, 70}, [3]int{2, 3, 10}, [3]int{3, 1, 70}, [3]int{3, 2, 10})
	if !equal(g, want) || e != api.OK {
		t.Errorf("Build is %v, %d, want %v", g, e, want)
	}
	blocked := slices.Repeat([]bool{false, false, false, false, false, false, false, true}, 15)
	g, e = hier.Build(m, blocked, api.CHover)
	if !equal(g, api.Graph{Class: api.CHover}) || e != api.OK {
		t.Errorf("Build with a wall is %v, %d", g, e)
	}
	g, e = hier.Build(m, blocked, api.CFly)
	if want.Class = api.CFly; !equal(g, want) || e != api.OK {
		t.Errorf("Build for flying units is %v, %d", g, e)
	}
}

// P16.1: graphs found by hand.
func TestBuild(t *testing.T) {
	cases := []struct {
		what    string
		m       api.Map
		blocked []bool
		class   int
		want    api.Graph
	}{
		{"one cluster", flat(8, 8), nil, api.CFoot, api.Graph{Class: api.CFoot}},
		{"one cell", flat(1, 1), nil, api.CFly, api.Graph{Class: api.CFly}},
		{"a row", flat(9, 1), nil, api.CHover, linked(api.CHover, cells(7, 0, 8, 0), [3]int{0, 1, 10}, [3]int{1, 0, 10})},
		{"a column", flat(1, 9), nil, api.CFoot, linked(api.CFoot, cells(0, 7, 0, 8), [3]int{0, 1, 10}, [3]int{1, 0, 10})},
		{"a slope", drawn("......012"), nil, api.CFoot, linked(api.CFoot, cells(7, 0, 8, 0), [3]int{0, 1, 15}, [3]int{1, 0, 15})},
		{"a slope for flying units", drawn("......012"), nil, api.CFly, linked(api.CFly, cells(7, 0, 8, 0), [3]int{0, 1, 10}, [3]int{1, 0, 10})},
		{"a cliff", drawn("......002"), nil, api.CFoot, api.Graph{Class: api.CFoot}},
		{"a rock", drawn(".......#."), nil, api.CHover, api.Graph{Class: api.CHover}},
		{"a rock behind a border", drawn(".......~#"), nil, api.CFoot, api.Graph{Class: api.CFoot}},
		{"a blocked cell", flat(9, 1), append(make([]bool, 8), true, true), api.CFoot, api.Graph{Class: api.CFoot}},
		{"a row with three clusters", flat(17, 1), nil, api.CFoot, linked(api.CFoot, cells(7, 0, 8, 0, 15, 0, 16, 0), [3]int{0, 1, 10}, [3]int{1, 0, 10}, [3]int{1, 2, 70}, [3]int{2, 1, 70}, [3]int{2, 3, 10}, [3]int{3, 2, 10})},
		{"a cluster that is cut", drawn("............#...."), nil, api.CFoot, linked(api.CFoot, cells(7, 0, 8, 0, 15, 0, 16, 0), [3]int{0, 1, 10}, [3]int{1, 0, 10}, [3]int{2, 3, 10}, [3]int{3, 2, 10})},
		{
			"a corner, where a node is at two borders", flat(9, 9), nil, api.CFoot,
			linked(
				api.CFoot, cells(7, 0, 8, 0, 0, 7, 7, 7, 8, 7, 0, 8, 7, 8, 8, 8),
				[3]int{0, 1, 10}, [3]int{0, 2, 98}, [3]int{0, 3, 70}, [3]int{1, 0, 10}, [3]int{1, 4, 70}, [3]int{2, 0, 98}, [3]int{2, 3, 70}, [3]int{2, 5, 10},
				[3]int{3, 0, 70}, [3]int{3, 2, 70}, [3]int{3, 4, 10}, [3]int{3, 6, 10}, [3]int{4, 1, 70}, [3]int{4, 3, 10}, [3]int{4, 7, 10},
				[3]int{5, 2, 10}, [3]int{5, 6, 70}, [3]int{6, 3, 10}, [3]int{6, 5, 70}, [3]int{6, 7, 10}, [3]int{7, 4, 10}, [3]int{7, 6, 10},
			),
		},
	}
	for _, c := range cases {
		if g, e := hier.Build(c.m, c.blocked, c.class); !equal(g, c.want) || e != api.OK {
			t.Errorf("%s: Build is %v, %d, want %v", c.what, g, e, c.want)
		}
	}
}

// P16.1: random maps of all sorts of sizes.
func TestBuildOfRandomMaps(t *testing.T) {
	random := rand.New(rand.NewSource(161))
	for i := range 48 {
		m := randomMap(random, 1+random.Intn(32), 1+random.Intn(32), i%7)
		checkBuild(t, model{m, randomBlocked(random, m), api.CFoot + i%3})
	}
	for _, w := range sizes() {
		for _, h := range sizes() {
			if w*h <= 300 {
				checkBuild(t, model{flat(w, h), nil, api.CFoot + (w+h)%3})
			}
		}
	}
}

// P16.1: maps and classes that are not valid.
func TestBuildOfInvalid(t *testing.T) {
	check := func(m api.Map, class int) {
		t.Helper()
		if g, e := hier.Build(m, []bool{true}, class); !equal(g, api.Graph{}) || e != api.ErrArg {
			t.Errorf("Build for the class %d of %v: %v, %d", class, m, g, e)
		}
	}
	for _, m := range invalidMaps() {
		for class := range 5 {
			check(m, class)
		}
	}
	for _, class := range noClasses() {
		check(flat(16, 8), class)
	}
}

// P16.1: the arguments stay as they are.
func TestBuildKeepsArguments(t *testing.T) {
	m, blocked := flat(10, 10), make([]bool, 30)
	blocked[3] = true
	if _, e := hier.Build(m, blocked, api.CFoot); e != api.OK {
		t.Errorf("Build: %d", e)
	}
	if !slices.Equal(m.Cells, flat(10, 10).Cells) || slices.Index(blocked, true) != 3 || slices.Contains(blocked[4:], true) {
		t.Errorf("Build has changed the map to %v, or the blocked cells to %v", m, blocked)
	}
}
