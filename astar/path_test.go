package astar_test

import (
	"math/rand"
	"slices"
	"testing"

	"skirmish/api"
	"skirmish/astar"
)

// checkPath compares the result of Path with the model.
func checkPath(t *testing.T, d model, a, b api.Pos) {
	t.Helper()
	want, wantCost, ok := d.path(a, b)
	wantError := api.OK
	if !d.free(a) || !d.free(b) {
		wantError = api.ErrBlocked
	} else if !ok {
		wantError = api.ErrUnreachable
	}
	path, cost, e := astar.Path(d.m, d.blocked, d.class, a, b)
	if e != wantError || cost != wantCost || !slices.Equal(path, want) {
		t.Fatalf("Path of class %d from %v to %v in %v with %v: %v, %d, %d, want %v, %d, %d", d.class, a, b, d.m, d.blocked, path, cost, e, want, wantCost, wantError)
	}
}

// P14.1: ways found by hand.
func TestPath(t *testing.T) {
	rock, hill := drawn("...", ".#.", "..."), drawn("...", ".1.", "...")
	cases := []struct {
		m       api.Map
		blocked []bool
		class   int
		cost    int
		path    []api.Pos
	}{
		{flat(3, 3), nil, api.CFoot, 24, cells(0, 0, 1, 0, 2, 1)},
		{flat(3, 3), nil, api.CFoot, 0, cells(1, 2)},
		{flat(1, 1), nil, api.CHover, 0, cells(0, 0)},
		{flat(6, 4), nil, api.CHover, 58, cells(0, 0, 1, 0, 2, 0, 3, 0, 4, 1, 5, 2)},
		// The lesser one of two neighboring directions comes first.
		{flat(3, 3), nil, api.CFly, 24, cells(0, 0, 1, 1, 1, 2)},
		{flat(3, 3), nil, api.CFoot, 24, cells(2, 0, 2, 1, 1, 2)},
		{flat(3, 3), nil, api.CFoot, 24, cells(2, 1, 1, 2, 0, 2)},
		{flat(3, 3), nil, api.CFoot, 24, cells(2, 1, 1, 1, 0, 0)},
		{flat(3, 3), nil, api.CHover, 24, cells(1, 2, 0, 1, 0, 0)},
		{flat(3, 3), nil, api.CFoot, 24, cells(0, 2, 0, 1, 1, 0)},
		{flat(3, 3), nil, api.CFoot, 24, cells(0, 2, 1, 2, 2, 1)},
		// Around a rock, but not over its corners, and over it by air.
		{rock, nil, api.CFoot, 40, cells(0, 0, 1, 0, 2, 0, 2, 1, 2, 2)},
		{rock, nil, api.CHover, 40, cells(2, 2, 1, 2, 0, 2, 0, 1, 0, 0)},
		{rock, nil, api.CFly, 28, cells(0, 0, 1, 1, 2, 2)},
		{rock, nil, api.CFoot, 20, cells(1, 0, 2, 0, 2, 1)},
		{rock, nil, api.CFly, 14, cells(1, 0, 2, 1)},
		{drawn("..#..", "..#..", "....."), nil, api.CFoot, 60, cells(1, 0, 1, 1, 1, 2, 2, 2, 3, 2, 3, 1, 3, 0)},
		// Around and over a hill.
		{hill, nil, api.CFoot, 28, cells(0, 1, 1, 2, 2, 1)},
		{hill, nil, api.CFly, 20, cells(0, 1, 1, 1, 2, 1)},
		{hill, nil, api.CFoot, 34, cells(0, 0, 1, 0, 2, 1, 2, 2)},
		{hill, nil, api.CFoot, 15, cells(1, 2, 1, 1)},
		{hill, nil, api.CFoot, 19, cells(1, 1, 0, 0)},
		{drawn(".1."), nil, api.CHover, 30, cells(0, 0, 1, 0, 2, 0)},
		{drawn(".2.", "..."), nil, api.CFoot, 40, cells(0, 0, 0, 1, 1, 1, 2, 1, 2, 0)},
		{drawn(".1232", "#####"), nil, api.CFoot, 60, cells(0, 0, 1, 0, 2, 0, 3, 0, 4, 0)},
		// Water, ore and forest.
		{drawn(".~.", "#.#"), nil, api.CHover, 20, cells(0, 0, 1, 0, 2, 0)},
		{drawn(".$.", "#.#"), nil, api.CFoot, 20, cells(0, 0, 1, 0, 2, 0)},
		{drawn("*.*"), nil, api.CFly, 20, cells(0, 0, 1, 0, 2, 0)},
		// Blocked cells, in lists that are shorter or longer than the map.
		{flat(3, 2), []bool{false, true}, api.CFoot, 40, cells(0, 0, 0, 1, 1, 1, 2, 1, 2, 0)},
		{flat(3, 2), []bool{false, true}, api.CFly, 20, cells(0, 0, 1, 0, 2, 0)},
		{flat(3, 2), []bool{false, false, false, false, true, false, true, true, true}, api.CHover, 40, cells(0, 1, 0, 0, 1, 0, 2, 0, 2, 1)},
		{flat(2, 1), []bool{true, true}, api.CFly, 10, cells(1, 0, 0, 0)},
	}
	for i, c := range cases {
		a, b := c.path[0], c.path[len(c.path)-1]
		path, cost, e := astar.Path(c.m, c.blocked, c.class, a, b)
		if e != api.OK || cost != c.cost || !slices.Equal(path, c.path) {
			t.Errorf("case %d: Path from %v to %v is %v, %d, %d, want %v, %d", i, a, b, path, cost, e, c.path, c.cost)
		}
	}
}

// P14.1: the errors, and which of them comes first.
func TestPathErrors(t *testing.T) {
	m := drawn(".#.", "~2.")
	check := func(m api.Map, blocked []bool, class int, a, b api.Pos, want api.Errno) {
		t.Helper()
		if path, cost, e := astar.Path(m, blocked, class, a, b); e != want || cost != 0 || len(path) != 0 {
			t.Errorf("Path of class %d from %v to %v in %v with %v: %v, %d, %d, want the error %d", class, a, b, m, blocked, path, cost, e, want)
		}
	}
	for _, bad := range invalidMaps() {
		check(bad, nil, api.CFly, at(0, 0), at(0, 0), api.ErrArg)
		check(bad, nil, api.CFoot, at(0, 0), at(1, 0), api.ErrArg)
	}
	for _, class := range noClasses() {
		check(m, nil, class, at(0, 0), at(2, 0), api.ErrArg)
		check(m, nil, class, at(1, 0), at(1, 0), api.ErrArg)
	}
	for _, p := range outside(3, 2) {
		for class := api.CFoot; class <= api.CFly; class++ {
			check(m, nil, class, p, at(2, 0), api.ErrArg)
			check(m, nil, class, at(2, 0), p, api.ErrArg)
			check(m, nil, class, p, p, api.ErrArg)
		}
		check(m, nil, api.CFoot, p, at(1, 0), api.ErrArg)
		check(m, nil, api.CFoot, at(1, 0), p, api.ErrArg)
	}
	check(m, nil, api.CFoot, at(1, 0), at(1, 0), api.ErrBlocked)
	check(m, nil, api.CHover, at(1, 0), at(0, 0), api.ErrBlocked)
	check(m, nil, api.CFoot, at(2, 0), at(0, 1), api.ErrBlocked)
	check(m, []bool{true}, api.CFoot, at(0, 0), at(2, 0), api.ErrBlocked)
	check(m, []bool{false, false, true}, api.CFoot, at(0, 0), at(2, 0), api.ErrBlocked)
	check(m, []bool{false, false, true}, api.CHover, at(2, 0), at(2, 0), api.ErrBlocked)
	check(m, nil, api.CFoot, at(0, 0), at(2, 0), api.ErrUnreachable)
	check(m, nil, api.CHover, at(0, 0), at(1, 1), api.ErrUnreachable)
	check(m, nil, api.CHover, at(2, 1), at(0, 1), api.ErrUnreachable)
	check(flat(3, 1), []bool{false, true}, api.CFoot, at(0, 0), at(2, 0), api.ErrUnreachable)
	check(drawn(".#", "#."), nil, api.CFoot, at(0, 0), at(1, 1), api.ErrUnreachable)
}

// P14.1: all pairs of cells of small random maps.
func TestPathOfRandomMaps(t *testing.T) {
	random := rand.New(rand.NewSource(141))
	for i := range 150 {
		m := randomMap(random, 1+random.Intn(6), 1+random.Intn(6), i%7)
		d := model{m, randomBlocked(random, m), api.CFoot + i%3}
		for n := range len(m.Cells) * len(m.Cells) {
			checkPath(t, d, d.at(n/len(m.Cells)), d.at(n%len(m.Cells)))
		}
	}
}

// P14.1: all ways in squares of nine cells, which are compared by their costs and then by their directions.
func TestPathAmongAllWays(t *testing.T) {
	random := rand.New(rand.NewSource(14))
	for i := range 90 {
		m := randomMap(random, 3, 3, i%4)
		d := model{m, randomBlocked(random, m), api.CFoot + i%3}
		a, b := d.at(random.Intn(9)), d.at(random.Intn(9))
		if !d.free(a) || !d.free(b) {
			continue
		}
		var best []api.Pos
		var bestDirs []int
		least := 0
		d.ways(a, b, nil, nil, 0, func(cells []api.Pos, dirs []int, cost int) {
			if best == nil || cost < least || cost == least && slices.Compare(dirs, bestDirs) < 0 {
				best, bestDirs, least = slices.Clone(cells), slices.Clone(dirs), cost
			}
		})
		if path, cost, _ := astar.Path(m, d.blocked, d.class, a, b); cost != least || !slices.Equal(path, best) {
			t.Fatalf("Path of class %d from %v to %v in %v with %v: %v, %d, want %v, %d", d.class, a, b, m, d.blocked, path, cost, best, least)
		}
	}
}

// maze returns the greatest map, with walls that leave only a gap at one end, by turns, and hills all the way.
func maze() api.Map {
	m := flat(api.MaxSide, api.MaxSide)
	for i := range m.Cells {
		x, y := i%m.W, i/m.W
		m.Cells[i].Height = (x + y) % 2
		if y%4 == 1 && x < m.W-1 || y%4 == 3 && x > 0 {
			m.Cells[i] = api.Cell{Kind: api.TRock}
		}
	}
	return m
}

// P14.1: the greatest maps.
func TestPathOfLargeMaps(t *testing.T) {
	random := rand.New(rand.NewSource(142))
	for class := api.CFoot; class <= api.CFly; class++ {
		d := model{maze(), nil, class}
		checkPath(t, d, at(0, 0), at(31, 30))
		checkPath(t, d, at(3, 30), at(0, 0))
		checkPath(t, model{flat(32, 32), nil, class}, at(31, 31), at(0, 3))
		for rough := range 4 {
			m := randomMap(random, 32, 32-rough, rough)
			checkPath(t, model{m, randomBlocked(random, m), class}, d.at(random.Intn(900)), d.at(random.Intn(900)))
		}
	}
	// 16 rows of 31 steps each, and 15 times two steps from row to row, all of them up or down.
	if _, cost, e := astar.Path(maze(), nil, api.CFoot, at(0, 0), at(0, 30)); cost != 15*(16*31+15*2) || e != api.OK {
		t.Errorf("Path through the maze: %d, %d", cost, e)
	}
}

// Rule 0.4: the arguments are not changed, and the result is new memory.
func TestPathKeepsArguments(t *testing.T) {
	m, blocked := drawn("...1", ".#2~"), []bool{false, true, false, false, true}
	clone := slices.Clone(m.Cells)
	first, _, _ := astar.Path(m, blocked, api.CFoot, at(2, 0), at(2, 1))
	if len(first) != 0 {
		t.Errorf("Path onto a cliff: %v", first)
	}
	first, _, _ = astar.Path(m, blocked, api.CFoot, at(2, 0), at(3, 0))
	first[0] = at(9, 9)
	second, _, _ := astar.Path(m, blocked, api.CFoot, at(2, 0), at(3, 0))
	if !slices.Equal(second, cells(2, 0, 3, 0)) || !slices.Equal(m.Cells, clone) || !slices.Equal(blocked, []bool{false, true, false, false, true}) {
		t.Errorf("Path after a change of its result: %v", second)
	}
}
