package astar_test

import (
	"math/rand"
	"slices"
	"testing"

	"skirmish/api"
	"skirmish/astar"
)

// P14.3: lists found by hand.
func TestReach(t *testing.T) {
	m := drawn("..1", ".#2", "~$.")
	cases := []struct {
		m       api.Map
		blocked []bool
		class   int
		a       api.Pos
		want    []int
	}{
		{flat(1, 1), nil, api.CFoot, at(0, 0), []int{0}},
		{flat(3, 2), nil, api.CFoot, at(0, 0), []int{0, 10, 20, 10, 14, 24}},
		{flat(3, 2), nil, api.CHover, at(1, 1), []int{14, 10, 14, 10, 0, 10}},
		{m, nil, api.CFoot, at(0, 0), []int{0, 10, 25, 10, -1, 40, -1, -1, -1}},
		{m, nil, api.CFoot, at(2, 2), []int{-1, -1, -1, -1, -1, -1, -1, 10, 0}},
		{m, nil, api.CHover, at(0, 0), []int{0, 10, 25, 10, -1, 40, 20, 30, 40}},
		{m, nil, api.CFly, at(0, 0), []int{0, 10, 20, 10, 14, 24, 20, 24, 28}},
		// From cells that are not free.
		{m, nil, api.CFoot, at(1, 1), slices.Repeat([]int{-1}, 9)},
		{m, nil, api.CFoot, at(0, 2), slices.Repeat([]int{-1}, 9)},
		{m, []bool{true}, api.CHover, at(0, 0), slices.Repeat([]int{-1}, 9)},
		{m, []bool{true}, api.CFly, at(0, 0), []int{0, 10, 20, 10, 14, 24, 20, 24, 28}},
		// Lists of blocked cells that are shorter or longer than the map.
		{m, []bool{false, true}, api.CHover, at(0, 0), []int{0, -1, -1, 10, -1, -1, 20, 30, 40}},
		{m, []bool{false, false, false, false, false, false, false, true, true, true, true}, api.CHover, at(0, 0), []int{0, 10, 25, 10, -1, 40, 20, -1, -1}},
	}
	for i, c := range cases {
		if list := astar.Reach(c.m, c.blocked, c.class, c.a); !slices.Equal(list, c.want) {
			t.Errorf("case %d: Reach of class %d from %v is %v, want %v", i, c.class, c.a, list, c.want)
		}
	}
}

// P14.4: lists found by hand.
func TestRegions(t *testing.T) {
	m := drawn("..3", ".#2", "~$.")
	cases := []struct {
		m       api.Map
		blocked []bool
		class   int
		want    []int
	}{
		{flat(1, 1), nil, api.CFoot, []int{0}},
		{drawn("#"), nil, api.CFoot, []int{-1}},
		{flat(3, 2), nil, api.CFoot, slices.Repeat([]int{0}, 6)},
		{m, nil, api.CFoot, []int{0, 0, 2, 0, -1, 2, -1, 7, 7}},
		{m, nil, api.CHover, []int{0, 0, 2, 0, -1, 2, 0, 0, 0}},
		{m, nil, api.CFly, slices.Repeat([]int{0}, 9)},
		// Corners that touch do not connect, on foot; the least index need not come first along the way.
		{drawn(".#", "#."), nil, api.CFoot, []int{0, -1, -1, 3}},
		{drawn(".#", "#."), nil, api.CFly, []int{0, 0, 0, 0}},
		{drawn("#.", ".."), nil, api.CFoot, []int{-1, 1, 1, 1}},
		{drawn("##.", ".#.", "..."), nil, api.CHover, []int{-1, -1, 2, 2, -1, 2, 2, 2, 2}},
		{drawn(".#.", ".#.", "###", "..."), nil, api.CFoot, []int{0, -1, 2, 0, -1, 2, -1, -1, -1, 9, 9, 9}},
		// Lists of blocked cells that are shorter or longer than the map.
		{flat(3, 1), []bool{false, true}, api.CFoot, []int{0, -1, 2}},
		{flat(3, 1), []bool{true}, api.CHover, []int{-1, 1, 1}},
		{flat(3, 1), []bool{true, false, true, true, true}, api.CHover, []int{-1, 1, -1}},
		{flat(3, 1), []bool{true, true, true}, api.CFoot, []int{-1, -1, -1}},
		{flat(3, 1), []bool{true, true, true}, api.CFly, []int{0, 0, 0}},
	}
	for i, c := range cases {
		if list := astar.Regions(c.m, c.blocked, c.class); !slices.Equal(list, c.want) {
			t.Errorf("case %d: Regions of class %d is %v, want %v", i, c.class, list, c.want)
		}
	}
}

// P14.3 and P14.4: what is not valid, and cells outside.
func TestNothing(t *testing.T) {
	for _, bad := range invalidMaps() {
		for class := api.CFoot; class <= api.CFly; class++ {
			if reach, regions := astar.Reach(bad, nil, class, at(0, 0)), astar.Regions(bad, nil, class); len(reach) != 0 || len(regions) != 0 {
				t.Errorf("Reach and Regions in %v: %v, %v", bad, reach, regions)
			}
		}
	}
	for _, class := range noClasses() {
		if reach, regions := astar.Reach(flat(2, 2), nil, class, at(0, 0)), astar.Regions(flat(2, 2), nil, class); len(reach) != 0 || len(regions) != 0 {
			t.Errorf("Reach and Regions of class %d: %v, %v", class, reach, regions)
		}
	}
	for _, p := range outside(3, 2) {
		for class := api.CFoot; class <= api.CFly; class++ {
			if reach := astar.Reach(flat(3, 2), nil, class, p); len(reach) != 0 {
				t.Errorf("Reach of class %d from %v: %v", class, p, reach)
			}
		}
	}
}

// P14.3 and P14.4: all cells of random maps.
func TestReachAndRegionsOfRandomMaps(t *testing.T) {
	random := rand.New(rand.NewSource(143))
	for i := range 600 {
		m := randomMap(random, 1+random.Intn(9), 1+random.Intn(9), i%8)
		d := model{m, randomBlocked(random, m), api.CFoot + i%3}
		if got, want := astar.Regions(m, d.blocked, d.class), d.regions(); !slices.Equal(got, want) {
			t.Fatalf("Regions of class %d in %v with %v: %v, want %v", d.class, m, d.blocked, got, want)
		}
		for n := range m.Cells {
			if got, want := astar.Reach(m, d.blocked, d.class, d.at(n)), d.distances(d.at(n)); !slices.Equal(got, want) {
				t.Fatalf("Reach of class %d from %v in %v with %v: %v, want %v", d.class, d.at(n), m, d.blocked, got, want)
			}
		}
	}
}

// P14.3 and P14.4: the greatest maps.
func TestReachAndRegionsOfLargeMaps(t *testing.T) {
	random := rand.New(rand.NewSource(144))
	list := []api.Map{maze(), flat(32, 32), flat(32, 1), flat(1, 32)}
	for rough := range 9 {
		list = append(list, randomMap(random, 32-rough, 32, rough))
	}
	for i, m := range list {
		d := model{m, nil, api.CFoot + i%3}
		if i%2 == 1 {
			d.blocked = randomBlocked(random, m)
		}
		if !slices.Equal(astar.Regions(m, d.blocked, d.class), d.regions()) {
			t.Fatalf("Regions of the map %d", i)
		}
		for _, n := range []int{0, len(m.Cells) - 1, random.Intn(len(m.Cells))} {
			if !slices.Equal(astar.Reach(m, d.blocked, d.class, d.at(n)), d.distances(d.at(n))) {
				t.Fatalf("Reach from %v in the map %d", d.at(n), i)
			}
		}
	}
}

// P14.5 and P14.6: the functions agree with each other.
func TestFunctionsAgree(t *testing.T) {
	random := rand.New(rand.NewSource(145))
	for i := range 300 {
		m := randomMap(random, 1+random.Intn(14), 1+random.Intn(14), i%6)
		blocked, class := randomBlocked(random, m), api.CFoot+i%3
		regions := astar.Regions(m, blocked, class)
		for range 30 {
			j, k := random.Intn(len(m.Cells)), random.Intn(len(m.Cells))
			a, b := at(j%m.W, j/m.W), at(k%m.W, k/m.W)
			path, cost, e := astar.Path(m, blocked, class, a, b)
			if (e == api.OK) != (regions[j] >= 0 && regions[j] == regions[k]) || (e == api.ErrBlocked) != (regions[j] < 0 || regions[k] < 0) {
				t.Fatalf("Path of class %d from %v to %v in %v with %v: %d, in the regions %d and %d", class, a, b, m, blocked, e, regions[j], regions[k])
			}
			there, back := astar.Reach(m, blocked, class, a)[k], astar.Reach(m, blocked, class, b)[j]
			if e != api.OK {
				if there != -1 || back != -1 {
					t.Fatalf("Reach of class %d between %v and %v in %v with %v: %d, %d", class, a, b, m, blocked, there, back)
				}
				continue
			}
			total, e := astar.Cost(m, blocked, class, path)
			if e != api.OK || total != cost || there != cost || back != cost || path[0] != a || path[len(path)-1] != b {
				t.Fatalf("Path of class %d from %v to %v in %v with %v: %v, %d, but Cost is %d, %d and Reach %d, %d", class, a, b, m, blocked, path, cost, total, e, there, back)
			}
		}
	}
}

// P14.7
func TestTriangles(t *testing.T) {
	random := rand.New(rand.NewSource(147))
	for i := range 60 {
		m := randomMap(random, 1+random.Intn(8), 1+random.Intn(8), i%5)
		blocked, class := randomBlocked(random, m), api.CFoot+i%3
		var costs [][]int
		for n := range m.Cells {
			costs = append(costs, astar.Reach(m, blocked, class, at(n%m.W, n/m.W)))
		}
		for a := range costs {
			for b := range costs {
				for c := range costs {
					if costs[a][b] >= 0 && costs[b][c] >= 0 && (costs[a][c] < 0 || costs[a][c] > costs[a][b]+costs[b][c]) {
						t.Fatalf("the costs of class %d between the cells %d, %d and %d of %v with %v: %d + %d, but %d", class, a, b, c, m, blocked, costs[a][b], costs[b][c], costs[a][c])
					}
				}
			}
		}
	}
}

// Rule 0.4: the arguments are not changed, and the results are new memory.
func TestReachAndRegionsKeepArguments(t *testing.T) {
	m, blocked := drawn("...1", ".#2~"), []bool{false, true, false}
	clone := slices.Clone(m.Cells)
	for range 2 {
		reach, regions := astar.Reach(m, blocked, api.CHover, at(2, 0)), astar.Regions(m, blocked, api.CHover)
		if !slices.Equal(reach, []int{-1, -1, 0, 15, -1, -1, -1, 30}) || !slices.Equal(regions, []int{0, -1, 2, 2, 0, -1, 6, 2}) {
			t.Errorf("Reach and Regions: %v, %v", reach, regions)
		}
		reach[2], regions[2] = 77, 77
	}
	if !slices.Equal(m.Cells, clone) || !slices.Equal(blocked, []bool{false, true, false}) {
		t.Error("the arguments have changed")
	}
}
