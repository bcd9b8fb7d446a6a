package cluster_test

import (
	"math/rand"
	"slices"
	"testing"

	"skirmish/api"
	"skirmish/cluster"
)

// pairs returns a list of pairs of cells from their coordinates.
func pairs(numbers ...int) [][2]api.Pos {
	var list [][2]api.Pos
	for l := cells(numbers...); len(l) > 0; l = l[2:] {
		list = append(list, [2]api.Pos{l[0], l[1]})
	}
	return list
}

// P15.2: the examples of the document and of the chapter.
func TestEntrancesExamples(t *testing.T) {
	for class := api.CFoot; class <= api.CFly; class++ {
		for _, c := range []struct {
			w, h, a, b int
			want       [][2]api.Pos
		}{
			{10, 9, 0, 1, pairs(7, 0, 8, 0, 7, 7, 8, 7)}, {10, 9, 0, 2, pairs(0, 7, 0, 8, 7, 7, 7, 8)}, {10, 9, 1, 3, pairs(8, 7, 8, 8)}, {10, 9, 2, 3, pairs(7, 8, 8, 8)},
			{16, 8, 0, 1, pairs(7, 0, 8, 0, 7, 7, 8, 7)},
		} {
			if l := cluster.Entrances(flat(c.w, c.h), nil, class, c.a, c.b); !slices.Equal(l, c.want) {
				t.Errorf("Entrances of %d and %d of %d by %d cells: %v, want %v", c.a, c.b, c.w, c.h, l, c.want)
			}
		}
	}
}

// P15.2: runs of all lengths, at borders of both sorts, at their beginning and at their end.
func TestEntrancesOfRuns(t *testing.T) {
	want := [][]int{{}, {0}, {0}, {1}, {1}, {2}, {0, 5}, {0, 6}, {0, 7}}
	for k := range 9 {
		for start := range 9 - k {
			wall := make([]bool, 256)
			var right, below [][2]api.Pos
			for i := range 8 {
				if i < start || i >= start+k {
					wall[16*i+7], wall[16*7+i] = true, true
				}
			}
			for _, i := range want[k] {
				right = append(right, pairs(7, start+i, 8, start+i)...)
				below = append(below, pairs(start+i, 7, start+i, 8)...)
			}
			// The cell (7, 7) is in both walls, unless the run ends there.
			if l := cluster.Entrances(flat(16, 16), wall, api.CFoot, 0, 1); !slices.Equal(l, right) {
				t.Errorf("Entrances of a run of %d from %d to the right: %v, want %v", k, start, l, right)
			}
			if l := cluster.Entrances(flat(16, 16), wall, api.CHover, 0, 2); !slices.Equal(l, below) {
				t.Errorf("Entrances of a run of %d from %d below: %v, want %v", k, start, l, below)
			}
			if l := cluster.Entrances(flat(16, 16), wall, api.CFly, 0, 1); !slices.Equal(l, pairs(7, 0, 8, 0, 7, 7, 8, 7)) {
				t.Errorf("Entrances for flying units: %v", l)
			}
			// In a map that ends behind the run, the border is as long as the run.
			if start == 0 && k > 0 {
				if l := cluster.Entrances(flat(9, k), nil, api.CFoot, 0, 1); !slices.Equal(l, right) {
					t.Errorf("Entrances at a border of %d to the right: %v, want %v", k, l, right)
				}
				if l := cluster.Entrances(flat(k, 9), nil, api.CFoot, 0, 1); !slices.Equal(l, below) {
					t.Errorf("Entrances at a border of %d below: %v, want %v", k, l, below)
				}
			}
		}
	}
}

// P15.2: what ends a run.
func TestEntrancesBetweenCliffs(t *testing.T) {
	cases := []struct {
		m       api.Map
		blocked []bool
		class   int
		want    [][2]api.Pos
	}{
		// All steps over the border are possible; one along it is not, before it, behind it, or in both clusters.
		{drawn("........11", "........11", "........11", ".......111", ".......111", "........11"), nil, api.CFoot, pairs(7, 0, 8, 0, 7, 5, 8, 5)},
		{drawn("........1", "........1", ".......11", ".......21", ".......21"), nil, api.CFoot, pairs(7, 2, 8, 2)},
		{drawn(".......01", ".......01", ".......21", ".......21", ".......21"), nil, api.CFoot, pairs(7, 0, 8, 0, 7, 3, 8, 3)},
		{drawn(".......10", ".......10", ".......12", ".......12", ".......12"), nil, api.CFoot, pairs(7, 0, 8, 0, 7, 3, 8, 3)},
		{drawn(".......10", ".......12", ".......10", ".......12", ".......10"), nil, api.CHover, pairs(7, 0, 8, 0, 7, 1, 8, 1, 7, 2, 8, 2, 7, 3, 8, 3, 7, 4, 8, 4)},
		{drawn(".......10", ".......12", ".......10", ".......12", ".......10"), nil, api.CFly, pairs(7, 2, 8, 2)},
		{drawn(".......00", ".......00", ".......22", ".......22", ".......22"), nil, api.CFoot, pairs(7, 0, 8, 0, 7, 3, 8, 3)},
		// Cells with a height, where steps over the border are not possible.
		{drawn("........2", "........1", ".......02", ".......13", ".......31"), nil, api.CFoot, pairs(7, 1, 8, 1)},
		// Terrain.
		{drawn(".......~~", ".......$$", ".......**", ".......##", "........."), nil, api.CFoot, pairs(7, 1, 8, 1, 7, 4, 8, 4)},
		{drawn(".......~~", ".......$$", ".......**", ".......##", "........."), nil, api.CHover, pairs(7, 0, 8, 0, 7, 4, 8, 4)},
		{drawn(".......~~", ".......$$", ".......**", ".......##", "........."), nil, api.CFly, pairs(7, 2, 8, 2)},
		{drawn("...", "...", "...", "...", "...", "...", "...", "0.1", "2$1"), nil, api.CFoot, pairs(1, 7, 1, 8)},
		{drawn("...", "...", "...", "...", "...", "...", "...", "0~1", "1#2"), nil, api.CFoot, pairs(0, 7, 0, 8, 2, 7, 2, 8)},
		// Blocked cells, in lists that are shorter or longer than the map.
		{flat(9, 3), []bool{false, false, false, false, false, false, false, true}, api.CFoot, pairs(7, 1, 8, 1)},
		{flat(9, 3), []bool{false, false, false, false, false, false, false, false, true}, api.CHover, pairs(7, 1, 8, 1)},
		{flat(9, 3), append(make([]bool, 17), true), api.CFoot, pairs(7, 0, 8, 0, 7, 2, 8, 2)},
		{flat(9, 3), slices.Repeat([]bool{true}, 40), api.CFoot, nil},
		{flat(9, 3), slices.Repeat([]bool{true}, 40), api.CFly, pairs(7, 1, 8, 1)},
		{flat(9, 3), append(make([]bool, 27), true, true), api.CFoot, pairs(7, 1, 8, 1)},
	}
	for i, c := range cases {
		if l := cluster.Entrances(c.m, c.blocked, c.class, 0, 1); !slices.Equal(l, c.want) {
			t.Errorf("case %d: Entrances for the class %d: %v, want %v", i, c.class, l, c.want)
		}
	}
}

// checkEntrances compares Entrances of all pairs of clusters with the model.
func checkEntrances(t *testing.T, d model) {
	t.Helper()
	crossings := d.crossings()
	for a := range d.count() {
		for b := range d.count() {
			l := cluster.Entrances(d.m, d.blocked, d.class, a, b)
			if want := d.entrances(crossings[[2]int{a, b}]); !slices.Equal(l, want) {
				t.Fatalf("Entrances for the class %d of %d and %d of %v with %v: %v, want %v", d.class, a, b, d.m, d.blocked, l, want)
			}
		}
	}
}

// P15.2: random maps of all sorts of sizes, all pairs of clusters; most of them are no neighbors, such as the last of a row and the first of the next one.
func TestEntrancesOfRandomMaps(t *testing.T) {
	random := rand.New(rand.NewSource(152))
	for i := range 400 {
		m := randomMap(random, 1+random.Intn(32), 1+random.Intn(32), i%5)
		checkEntrances(t, model{m, randomBlocked(random, m), api.CFoot + i%3})
	}
	for _, w := range sizes() {
		for _, h := range sizes() {
			checkEntrances(t, model{flat(w, h), nil, api.CFoot})
		}
	}
}

// P15.2: clusters that are no neighbors, or none.
func TestEntrancesOfNoNeighbors(t *testing.T) {
	none := func(m api.Map, a, b int) {
		t.Helper()
		if l := cluster.Entrances(m, nil, api.CFly, a, b); len(l) != 0 {
			t.Errorf("Entrances of %d and %d of %d by %d cells: %v", a, b, m.W, m.H, l)
		}
	}
	m := flat(20, 20)
	for a := range 9 {
		none(m, a, a)
		none(m, a, a-1)
		none(m, a, a-3)
		none(m, a, a+2)
		none(m, a, a+4)
		for _, b := range wrong(9) {
			none(m, a, b)
			none(m, b, a)
		}
	}
	none(m, 2, 3)
	none(m, 5, 6)
	for _, a := range wrong(9) {
		none(m, a, a)
		none(m, a, a+1)
		none(m, a, a+3)
	}
}

// P15.2: maps and classes that are not valid.
func TestEntrancesOfInvalidMaps(t *testing.T) {
	list := invalidMaps()
	for _, m := range []api.Map{flat(9, 9), flat(32, 32)} {
		m.Cells[len(m.Cells)-1] = api.Cell{Kind: 6}
		list = append(list, m)
	}
	for _, m := range list {
		for class := range 5 {
			for b := range 5 {
				if l := cluster.Entrances(m, nil, class, 0, b); len(l) != 0 {
					t.Errorf("Entrances of 0 and %d of %v: %v", b, m, l)
				}
			}
		}
	}
	for _, class := range noClasses() {
		for b := 1; b <= 2; b++ {
			if l := cluster.Entrances(flat(9, 9), nil, class, 0, b); len(l) != 0 {
				t.Errorf("Entrances for the class %d: %v", class, l)
			}
		}
	}
}

// P15.2: the arguments stay as they are, and each result is new memory.
func TestEntrancesAreNew(t *testing.T) {
	m := flat(16, 8)
	blocked := make([]bool, 128)
	first := cluster.Entrances(m, blocked, api.CFoot, 0, 1)
	first[0], first[1] = [2]api.Pos{}, [2]api.Pos{}
	if l := cluster.Entrances(m, blocked, api.CFoot, 0, 1); !slices.Equal(l, pairs(7, 0, 8, 0, 7, 7, 8, 7)) {
		t.Errorf("Entrances after a change of a result: %v", l)
	}
	if !slices.Equal(m.Cells, flat(16, 8).Cells) || slices.Contains(blocked, true) {
		t.Errorf("Entrances changed its arguments: %v, %v", m, blocked)
	}
}

// P15.5: from each crossing an entrance can be reached on both sides; no entrance is anything but a crossing.
func TestEntrancesAreReached(t *testing.T) {
	random := rand.New(rand.NewSource(155))
	for i := range 60 {
		m := randomMap(random, 9+random.Intn(12), 1+random.Intn(20), i%5)
		d := model{m, randomBlocked(random, m), api.CFoot + i%3}
		all := d.crossings()
		for a := range d.count() {
			for _, b := range []int{a + 1, a + d.columns()} {
				crossings := all[[2]int{a, b}]
				entrances := cluster.Entrances(d.m, d.blocked, d.class, a, b)
				for _, c := range crossings {
					if !slices.ContainsFunc(entrances, func(e [2]api.Pos) bool { return reached(d, c, e) }) {
						t.Fatalf("no entrance of %d and %d of %v with %v is reached from %v: %v", a, b, d.m, d.blocked, c, entrances)
					}
				}
				for _, e := range entrances {
					if !slices.Contains(crossings, e) {
						t.Fatalf("the entrance %v of %d and %d of %v with %v is no crossing", e, a, b, d.m, d.blocked)
					}
				}
			}
		}
	}
}

// reached tells whether both cells of the pair e are reached from those of c within their clusters.
func reached(d model, c, e [2]api.Pos) bool {
	return d.costs(c[0])[e[0]] >= 0 && d.costs(c[1])[e[1]] >= 0
}
