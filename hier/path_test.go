package hier_test

import (
	"math/rand"
	"slices"
	"testing"

	"skirmish/api"
	"skirmish/astar"
	"skirmish/hier"
)

// P16.3: the examples of the chapter.
func TestPathExample(t *testing.T) {
	m := flat(16, 8)
	g := built(t, m, nil, api.CFoot)
	path, cost, e := hier.Path(g, m, nil, at(6, 0), at(9, 0))
	if !slices.Equal(path, cells(6, 0, 7, 0, 8, 0, 9, 0)) || cost != 30 || e != api.OK {
		t.Errorf("Path is %v, %d, %d", path, cost, e)
	}
	if points := hier.Points(path); !slices.Equal(points, cells(6, 0, 9, 0)) {
		t.Errorf("Points is %v", points)
	}
	blocked := slices.Repeat([]bool{false, false, false, false, false, false, false, true}, 15)
	g = built(t, m, blocked, api.CFoot)
	if path, cost, e := hier.Path(g, m, blocked, at(6, 0), at(9, 0)); len(path) != 0 || cost != 0 || e != api.ErrUnreachable {
		t.Errorf("Path through a wall is %v, %d, %d", path, cost, e)
	}
}

// P16.3: paths found by hand.
func TestPath(t *testing.T) {
	walled := drawn(
		".......#........",
		".......#........",
		".......#........",
		"................",
	)
	outside := drawn(
		"...#....~",
		"...#.....",
		"...#.....",
		"...#.....",
		"...#.....",
		"...#.....",
		"...#.....",
		"...#.....",
		".........",
	)
	cases := []struct {
		what  string
		m     api.Map
		class int
		a, b  api.Pos
		path  []api.Pos
		cost  int
		e     api.Errno
	}{
		{"the same cell", flat(16, 8), api.CFoot, at(3, 3), at(3, 3), cells(3, 3), 0, api.OK},
		{"the same cell, a node", flat(16, 8), api.CFoot, at(7, 0), at(7, 0), cells(7, 0), 0, api.OK},
		{"the next cell", flat(16, 8), api.CFoot, at(3, 3), at(4, 4), cells(3, 3, 4, 4), 14, api.OK},
		{"the least directions first", flat(8, 8), api.CHover, at(0, 0), at(4, 1), cells(0, 0, 1, 0, 2, 0, 3, 0, 4, 1), 44, api.OK},
		{"between nodes", flat(16, 8), api.CFoot, at(7, 0), at(8, 0), cells(7, 0, 8, 0), 10, api.OK},
		{"across a border far from an entrance", flat(16, 8), api.CFoot, at(7, 3), at(8, 3), cells(7, 3, 7, 2, 7, 1, 7, 0, 8, 0, 8, 1, 8, 2, 8, 3), 70, api.OK},
		{"to the nearer entrance", flat(16, 8), api.CFoot, at(7, 4), at(8, 4), cells(7, 4, 7, 5, 7, 6, 7, 7, 8, 7, 8, 6, 8, 5, 8, 4), 70, api.OK},
		{"to a node", flat(16, 8), api.CFoot, at(6, 6), at(8, 7), cells(6, 6, 7, 7, 8, 7), 24, api.OK},
		{"from a node", flat(16, 8), api.CFoot, at(8, 7), at(6, 6), cells(8, 7, 7, 7, 6, 6), 24, api.OK},
		{"around a wall", walled, api.CFoot, at(7, 3), at(8, 0), cells(7, 3, 8, 3, 8, 2, 8, 1, 8, 0), 40, api.OK},
		{"over a wall", walled, api.CFly, at(7, 0), at(8, 0), cells(7, 0, 7, 1, 8, 1, 8, 0), 30, api.OK},
		{"by another cluster, within one", outside, api.CFoot, at(2, 7), at(4, 7), cells(2, 7, 1, 7, 1, 8, 2, 8, 3, 8, 4, 8, 5, 8, 5, 7, 4, 7), 80, api.OK},
		{"to a rock", walled, api.CFoot, at(0, 0), at(7, 0), nil, 0, api.ErrBlocked},
		{"from a rock", walled, api.CHover, at(7, 0), at(0, 0), nil, 0, api.ErrBlocked},
		{"from a rock to itself", walled, api.CFoot, at(7, 0), at(7, 0), nil, 0, api.ErrBlocked},
		{"to water", outside, api.CFoot, at(7, 0), at(8, 0), nil, 0, api.ErrBlocked},
		{"across a wall", drawn(".......#."), api.CFoot, at(0, 0), at(8, 0), nil, 0, api.ErrUnreachable},
		{"across a wall of a cluster", drawn("...#....."), api.CFoot, at(0, 0), at(4, 0), nil, 0, api.ErrUnreachable},
		{"up a cliff", drawn("........2"), api.CHover, at(0, 0), at(8, 0), nil, 0, api.ErrUnreachable},
		{"up a slope", drawn(".......12"), api.CHover, at(6, 0), at(8, 0), cells(6, 0, 7, 0, 8, 0), 30, api.OK},
	}
	for _, c := range cases {
		g := built(t, c.m, nil, c.class)
		if path, cost, e := hier.Path(g, c.m, nil, c.a, c.b); !slices.Equal(path, c.path) || cost != c.cost || e != c.e {
			t.Errorf("%s: Path is %v, %d, %d, want %v, %d, %d", c.what, path, cost, e, c.path, c.cost, c.e)
		}
	}
}

// P16.3: blocked cells, for those that walk and those that fly.
func TestPathOfBlocked(t *testing.T) {
	m := flat(9, 2)
	blocked := append(make([]bool, 7), true, false, true, false)
	for class := api.CFoot; class <= api.CFly; class++ {
		g := built(t, m, blocked, class)
		want := api.ErrBlocked
		if class == api.CFly {
			want = api.OK
		}
		for _, p := range cells(7, 0, 0, 1) {
			if _, _, e := hier.Path(g, m, blocked, p, at(4, 0)); e != want {
				t.Errorf("Path from the blocked cell %v for the class %d: %d", p, class, e)
			}
			if _, _, e := hier.Path(g, m, blocked, at(8, 1), p); e != want {
				t.Errorf("Path to the blocked cell %v for the class %d: %d", p, class, e)
			}
		}
		if _, cost, e := hier.Path(g, m, blocked, at(7, 1), at(8, 0)); cost != 20 || e != api.OK {
			t.Errorf("Path beside blocked cells for the class %d: %d, %d", class, cost, e)
		}
	}
}

// checkPath compares the results of Path and Connected with the model, and with those of layer 14 (P16.3, P16.5 and P16.7).
func checkPath(t *testing.T, d model, g api.Graph, a, b api.Pos) {
	t.Helper()
	var want []api.Pos
	wantCost, wantError := 0, api.ErrBlocked
	if d.free(a) && d.free(b) {
		want, wantCost = d.path(g, a, b)
		wantError = api.OK
		if wantCost < 0 {
			wantCost, wantError = 0, api.ErrUnreachable
		}
	}
	path, cost, e := hier.Path(g, d.m, d.blocked, a, b)
	if !slices.Equal(path, want) || cost != wantCost || e != wantError {
		t.Fatalf("Path for the class %d of %v with %v from %v to %v is %v, %d, %d, want %v, %d, %d", d.class, d.m, d.blocked, a, b, path, cost, e, want, wantCost, wantError)
	}
	if ok := hier.Connected(g, d.m, d.blocked, a, b); ok != (e == api.OK) {
		t.Fatalf("Connected for the class %d of %v with %v from %v to %v is %v, but Path returns %d", d.class, d.m, d.blocked, a, b, ok, e)
	}
	_, least, e14 := astar.Path(d.m, d.blocked, d.class, a, b)
	if e != e14 || cost < least {
		t.Fatalf("Path for the class %d of %v with %v from %v to %v: %d, %d, but that of layer 14: %d, %d", d.class, d.m, d.blocked, a, b, cost, e, least, e14)
	}
	if e != api.OK {
		return
	}
	if steps, e := astar.Cost(d.m, d.blocked, d.class, path); steps != cost || e != api.OK {
		t.Fatalf("Path for the class %d of %v with %v from %v to %v: %v costs %d, %d, not %d", d.class, d.m, d.blocked, a, b, path, steps, e, cost)
	}
	if line := between(hier.Points(path)); !slices.Equal(line, path) {
		t.Fatalf("Points of %v is %v", path, hier.Points(path))
	}
}

// between returns the cells on the straight ways from point to point.
func between(points []api.Pos) []api.Pos {
	line := points[:1:1]
	for _, q := range points[1:] {
		for p := line[len(line)-1]; p != q; {
			p = at(p.X+sign(q.X-p.X), p.Y+sign(q.Y-p.Y))
			line = append(line, p)
		}
	}
	return line
}

func sign(n int) int { return max(-1, min(1, n)) }

// P16.3, P16.5, P16.7 and P16.9: random maps, for some cells, of which many are nodes or beside one another.
func TestPathOfRandomMaps(t *testing.T) {
	random := rand.New(rand.NewSource(163))
	for i := range 40 {
		m := randomMap(random, 1+random.Intn(32), 1+random.Intn(32), i%6)
		d := model{m, randomBlocked(random, m), api.CFoot + i%3}
		g := d.graph()
		for range 12 {
			a, b := d.at(random.Intn(len(m.Cells))), d.at(random.Intn(len(m.Cells)))
			if len(g.Nodes) > 0 && random.Intn(3) == 0 {
				a = g.Nodes[random.Intn(len(g.Nodes))].At
			}
			if len(g.Nodes) > 0 && random.Intn(3) == 0 {
				b = g.Nodes[random.Intn(len(g.Nodes))].At
			}
			checkPath(t, d, g, a, b)
		}
	}
}

// P16.3, P16.5, P16.7 and P16.9: small maps at the corners of clusters, for many pairs of cells.
func TestPathOfSmallMaps(t *testing.T) {
	random := rand.New(rand.NewSource(164))
	for i := range 20 {
		m := randomMap(random, 1+random.Intn(17), 1+random.Intn(5), i%5)
		if i%2 == 0 {
			m.W, m.H = m.H, m.W
		}
		d := model{m, randomBlocked(random, m), api.CFoot + i%3}
		g := d.graph()
		for n := range len(m.Cells) * len(m.Cells) {
			if random.Intn(20) == 0 {
				checkPath(t, d, g, d.at(n%len(m.Cells)), d.at(n/len(m.Cells)))
			}
		}
	}
}

// P16.8: being connected is symmetrical and transitive, so cells are connected exactly if they are in the same region of layer 14.
func TestConnectedRegions(t *testing.T) {
	random := rand.New(rand.NewSource(168))
	for i := range 7 {
		m := randomMap(random, 1+random.Intn(11), 1+random.Intn(11), 3+i%4)
		blocked, class := randomBlocked(random, m), api.CFoot+i%3
		g := built(t, m, blocked, class)
		d := model{m: m}
		regions := astar.Regions(m, blocked, class)
		for j := range m.Cells {
			for k := range m.Cells {
				want := regions[j] >= 0 && regions[j] == regions[k]
				if ok := hier.Connected(g, m, blocked, d.at(j), d.at(k)); ok != want {
					t.Fatalf("Connected for the class %d of %v with %v from %v to %v is %v", class, m, blocked, d.at(j), d.at(k), ok)
				}
			}
		}
	}
}

// checkNoPath checks that Path returns an error and nothing else, and that Connected is false.
func checkNoPath(t *testing.T, g api.Graph, m api.Map, blocked []bool, a, b api.Pos, want api.Errno) {
	t.Helper()
	if path, cost, e := hier.Path(g, m, blocked, a, b); len(path) != 0 || cost != 0 || e != want {
		t.Errorf("Path for the class %d of %v from %v to %v: %v, %d, %d, want %d", g.Class, m, a, b, path, cost, e, want)
	}
	if hier.Connected(g, m, blocked, a, b) {
		t.Errorf("Connected for the class %d of %v from %v to %v", g.Class, m, a, b)
	}
}

// P16.3 and P16.5: maps, classes and cells that are not valid come before cells that are not open, whatever the graph is.
func TestPathErrors(t *testing.T) {
	m := drawn(".#......#", ".........")
	for _, bad := range invalidMaps() {
		for class := range 5 {
			checkNoPath(t, api.Graph{Class: class}, bad, nil, at(0, 0), at(0, 0), api.ErrArg)
			checkNoPath(t, built(t, m, nil, api.CFly), bad, nil, at(0, 0), at(1, 0), api.ErrArg)
		}
	}
	for _, class := range noClasses() {
		g := built(t, m, nil, api.CFoot)
		g.Class = class
		checkNoPath(t, g, m, nil, at(0, 0), at(8, 1), api.ErrArg)
		checkNoPath(t, g, m, nil, at(1, 0), at(8, 0), api.ErrArg)
	}
	for class := api.CFoot; class <= api.CFly; class++ {
		for _, g := range []api.Graph{built(t, m, nil, class), {Class: class}} {
			for _, p := range outside(9, 2) {
				checkNoPath(t, g, m, nil, p, at(0, 0), api.ErrArg)
				checkNoPath(t, g, m, nil, at(0, 0), p, api.ErrArg)
				checkNoPath(t, g, m, nil, at(1, 0), p, api.ErrArg)
				checkNoPath(t, g, m, nil, p, at(1, 0), api.ErrArg)
				checkNoPath(t, g, m, nil, p, p, api.ErrArg)
			}
			if class != api.CFly {
				checkNoPath(t, g, m, nil, at(1, 0), at(0, 0), api.ErrBlocked)
				checkNoPath(t, g, m, nil, at(0, 1), at(8, 0), api.ErrBlocked)
				checkNoPath(t, g, m, []bool{true}, at(0, 0), at(0, 1), api.ErrBlocked)
				checkNoPath(t, g, m, []bool{true}, at(0, 1), at(0, 0), api.ErrBlocked)
			}
		}
	}
}

// P16.3: the arguments stay as they are, and results do not depend on earlier calls.
func TestPathKeepsArguments(t *testing.T) {
	m, blocked := flat(17, 9), append(make([]bool, 7), true)
	g, want := built(t, m, blocked, api.CFoot), built(t, m, blocked, api.CFoot)
	first, _, _ := hier.Path(g, m, blocked, at(0, 0), at(16, 8))
	clear(first)
	second, cost, e := hier.Path(g, m, blocked, at(0, 0), at(16, 8))
	if cost < 176 || e != api.OK || second[0] != at(0, 0) || second[len(second)-1] != at(16, 8) {
		t.Errorf("Path is %v, %d, %d", second, cost, e)
	}
	if !equal(g, want) || !slices.Equal(m.Cells, flat(17, 9).Cells) || slices.Index(blocked, true) != 7 || len(blocked) != 8 {
		t.Errorf("Path has changed an argument: %v, %v, %v", g, m, blocked)
	}
}
