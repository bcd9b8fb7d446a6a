package astar_test

import (
	"math/rand"
	"slices"
	"testing"

	"skirmish/api"
	"skirmish/astar"
)

// checkCost compares the result of Cost with the model.
func checkCost(t *testing.T, d model, path []api.Pos) {
	t.Helper()
	want, wantError := 0, api.OK
	for i, p := range path {
		if !d.free(p) {
			wantError = api.ErrBlocked
		}
		if i > 0 {
			step := d.step(path[i-1], p)
			want += step
			if step == 0 {
				wantError = api.ErrBlocked
			}
		}
	}
	if wantError != api.OK {
		want = 0
	}
	if cost, e := astar.Cost(d.m, d.blocked, d.class, path); cost != want || e != wantError {
		t.Fatalf("Cost of class %d of %v in %v with %v: %d, %d, want %d, %d", d.class, path, d.m, d.blocked, cost, e, want, wantError)
	}
}

// P14.2: ways and lists that are none.
func TestCost(t *testing.T) {
	m := drawn("..1", ".#2", "~$.")
	cases := []struct {
		blocked []bool
		class   int
		path    []api.Pos
		cost    int
		e       api.Errno
	}{
		{nil, api.CFoot, cells(0, 0), 0, api.OK},
		{nil, api.CFoot, cells(0, 1, 0, 0, 1, 0, 2, 0, 2, 1), 50, api.OK},
		{nil, api.CFoot, cells(2, 1, 2, 0, 1, 0, 0, 0, 0, 1), 50, api.OK},
		{nil, api.CFly, cells(0, 1, 0, 0, 1, 0, 2, 0, 2, 1), 40, api.OK},
		{nil, api.CFly, cells(0, 0, 1, 1, 2, 2, 1, 1), 42, api.OK},
		{nil, api.CHover, cells(0, 1, 0, 2, 1, 2, 2, 2), 30, api.OK},
		// Ways need not be short, nor end anywhere else.
		{nil, api.CFoot, cells(0, 0, 1, 0, 0, 0, 1, 0, 0, 0), 40, api.OK},
		{nil, api.CFly, cells(2, 2, 1, 1, 2, 1, 2, 2), 34, api.OK},
		// Cells that are not free.
		{nil, api.CFoot, cells(1, 1), 0, api.ErrBlocked},
		{nil, api.CFoot, cells(0, 2), 0, api.ErrBlocked},
		{nil, api.CFoot, cells(1, 0, 1, 1), 0, api.ErrBlocked},
		{nil, api.CFoot, cells(1, 1, 1, 0), 0, api.ErrBlocked},
		{nil, api.CFoot, cells(0, 1, 0, 2, 1, 2), 0, api.ErrBlocked},
		{[]bool{true}, api.CFoot, cells(0, 0), 0, api.ErrBlocked},
		{[]bool{true}, api.CHover, cells(1, 0, 0, 0), 0, api.ErrBlocked},
		{[]bool{true}, api.CFly, cells(1, 0, 0, 0), 10, api.OK},
		{[]bool{true}, api.CFoot, cells(1, 0, 2, 0), 15, api.OK},
		{[]bool{false, false, false, false, false, false, false, false, false, true}, api.CFoot, cells(1, 2, 2, 2), 10, api.OK},
		// Steps that are not possible: over a corner, up a cliff, none, and too far.
		{nil, api.CFoot, cells(1, 0, 0, 1), 0, api.ErrBlocked},
		{nil, api.CHover, cells(1, 2, 2, 1), 0, api.ErrBlocked},
		{nil, api.CFly, cells(1, 2, 2, 1), 14, api.OK},
		{nil, api.CFoot, cells(2, 1, 2, 2), 0, api.ErrBlocked},
		{nil, api.CFoot, cells(2, 2, 2, 1), 0, api.ErrBlocked},
		{nil, api.CFly, cells(2, 1, 2, 2), 10, api.OK},
		{nil, api.CFly, cells(0, 0, 0, 0), 0, api.ErrBlocked},
		{nil, api.CFoot, cells(0, 0, 1, 0, 1, 0, 2, 0), 0, api.ErrBlocked},
		{nil, api.CFoot, cells(0, 0, 2, 0), 0, api.ErrBlocked},
		{nil, api.CFly, cells(0, 0, 1, 2), 0, api.ErrBlocked},
		{nil, api.CFly, cells(0, 2, 1, 0), 0, api.ErrBlocked},
		{nil, api.CFly, cells(2, 0, 0, 1), 0, api.ErrBlocked},
		{nil, api.CFoot, cells(0, 1, 0, 0, 1, 0, 2, 0, 2, 1, 2, 2), 0, api.ErrBlocked},
	}
	for i, c := range cases {
		if cost, e := astar.Cost(m, c.blocked, c.class, c.path); cost != c.cost || e != c.e {
			t.Errorf("case %d: Cost of class %d of %v is %d, %d, want %d, %d", i, c.class, c.path, cost, e, c.cost, c.e)
		}
	}
}

// P14.2: what is not valid, also behind cells that are no way.
func TestCostErrors(t *testing.T) {
	m := drawn(".#.", "~2.")
	check := func(m api.Map, class int, path []api.Pos) {
		t.Helper()
		if cost, e := astar.Cost(m, nil, class, path); cost != 0 || e != api.ErrArg {
			t.Errorf("Cost of class %d of %v in %v: %d, %d", class, path, m, cost, e)
		}
	}
	for _, bad := range invalidMaps() {
		check(bad, api.CFly, cells(0, 0))
		check(bad, api.CFoot, cells(0, 0, 1, 0))
		check(bad, api.CHover, nil)
	}
	for _, class := range noClasses() {
		check(m, class, cells(0, 0))
		check(m, class, cells(1, 0))
		check(m, class, nil)
	}
	for class := api.CFoot; class <= api.CFly; class++ {
		check(m, class, nil)
		check(m, class, []api.Pos{})
		for _, p := range outside(3, 2) {
			check(m, class, []api.Pos{p})
			check(m, class, []api.Pos{p, at(0, 0)})
			check(m, class, []api.Pos{at(2, 0), p, at(2, 1)})
			check(m, class, []api.Pos{at(1, 0), at(0, 0), at(0, 0), p})
		}
	}
}

// P14.2: all lists of up to two cells, and random walks, some of which have a wrong cell.
func TestCostOfRandomWalks(t *testing.T) {
	random := rand.New(rand.NewSource(142))
	for i := range 600 {
		m := randomMap(random, 1+random.Intn(5), 1+random.Intn(5), i%7)
		d := model{m, randomBlocked(random, m), api.CFoot + i%3}
		for n := range len(m.Cells) * len(m.Cells) {
			checkCost(t, d, []api.Pos{d.at(n % len(m.Cells))})
			checkCost(t, d, []api.Pos{d.at(n % len(m.Cells)), d.at(n / len(m.Cells))})
		}
		for range 20 {
			path := []api.Pos{d.at(random.Intn(len(m.Cells)))}
			for range random.Intn(30) {
				last := path[len(path)-1]
				if q := around(last)[random.Intn(8)]; d.step(last, q) > 0 {
					path = append(path, q)
				}
			}
			checkCost(t, d, path)
			path[random.Intn(len(path))] = d.at(random.Intn(len(m.Cells)))
			checkCost(t, d, path)
		}
	}
}

// P14.2: a way that is longer than a map has cells.
func TestCostOfLongWays(t *testing.T) {
	path := slices.Repeat(cells(31, 31, 30, 31, 30, 30), 5000)
	if cost, e := astar.Cost(flat(32, 32), nil, api.CHover, path); cost != 34*5000-14 || e != api.OK {
		t.Errorf("Cost of %d cells: %d, %d", len(path), cost, e)
	}
	if cost, e := astar.Cost(flat(32, 32), nil, api.CHover, append(path, at(32, 31))); cost != 0 || e != api.ErrArg {
		t.Errorf("Cost of a way that ends outside: %d, %d", cost, e)
	}
}
