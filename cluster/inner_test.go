package cluster_test

import (
	"math/rand"
	"slices"
	"testing"

	"skirmish/api"
	"skirmish/cluster"
)

// P15.3: costs found by hand.
func TestInner(t *testing.T) {
	wide := drawn(
		"................",
		".......#........",
		".......#........",
		"......#.........",
	)
	high := drawn("0123", "3210", "0000")
	cases := []struct {
		m         api.Map
		blocked   []bool
		class, in int
		a, b      api.Pos
		cost      int
		ok        bool
		what      string
	}{
		{flat(8, 8), nil, api.CFoot, 0, at(0, 0), at(7, 7), 98, true, "diagonal"},
		{flat(8, 8), nil, api.CHover, 0, at(7, 0), at(0, 0), 70, true, "straight"},
		{flat(1, 1), nil, api.CFoot, 0, at(0, 0), at(0, 0), 0, true, "the only cell"},
		{wide, nil, api.CFoot, 0, at(7, 0), at(7, 0), 0, true, "the same cell"},
		{wide, nil, api.CFoot, 0, at(7, 0), at(6, 1), 20, true, "around a corner"},
		{wide, nil, api.CFoot, 0, at(7, 0), at(7, 3), 0, false, "a way outside"},
		{wide, nil, api.CFly, 0, at(7, 0), at(7, 3), 30, true, "for flying units"},
		{wide, nil, api.CFoot, 1, at(8, 0), at(8, 3), 30, true, "beside the border"},
		{wide, nil, api.CFoot, 1, at(15, 0), at(8, 3), 82, true, "in another cluster"},
		{wide, nil, api.CFoot, 0, at(7, 1), at(7, 1), 0, false, "the same cell, not open"},
		{wide, nil, api.CFoot, 0, at(7, 1), at(7, 0), 0, false, "from a rock"},
		{wide, nil, api.CFoot, 0, at(7, 0), at(7, 1), 0, false, "to a rock"},
		{wide, []bool{true}, api.CFoot, 0, at(0, 0), at(1, 0), 0, false, "from a blocked cell"},
		{wide, []bool{true}, api.CFoot, 0, at(0, 0), at(0, 0), 0, false, "the same cell, blocked"},
		{wide, []bool{true}, api.CFoot, 0, at(1, 0), at(0, 0), 0, false, "to a blocked cell"},
		{wide, []bool{true}, api.CFly, 0, at(1, 0), at(0, 0), 10, true, "blocked for others"},
		{wide, []bool{true, true}, api.CFoot, 0, at(0, 1), at(2, 0), 30, true, "around blocked cells"},
		{wide, append(make([]bool, 9), true), api.CFoot, 1, at(8, 0), at(10, 0), 40, true, "around a blocked cell of another cluster than the first"},
		{wide, append(make([]bool, 64), true, true), api.CFoot, 0, at(0, 3), at(1, 3), 10, true, "a list that is longer than the map"},
		{wide, nil, api.CFoot, 1, at(7, 0), at(8, 0), 0, false, "from another cluster"},
		{wide, nil, api.CFoot, 1, at(8, 0), at(7, 0), 0, false, "to another cluster"},
		{wide, nil, api.CFoot, 0, at(8, 0), at(8, 0), 0, false, "a cell of another cluster"},
		{wide, nil, api.CFoot, 1, at(0, 0), at(0, 1), 0, false, "both in another cluster"},
		{high, nil, api.CFoot, 0, at(0, 0), at(3, 0), 45, true, "up"},
		{high, nil, api.CFoot, 0, at(0, 0), at(0, 1), 45, true, "around a cliff"},
		{drawn("02"), nil, api.CFoot, 0, at(0, 0), at(1, 0), 0, false, "up a cliff"},
		{high, nil, api.CFoot, 0, at(3, 1), at(2, 1), 15, true, "up a level"},
		{high, nil, api.CFly, 0, at(0, 0), at(3, 1), 34, true, "over a cliff"},
		{drawn(".~", "$*"), nil, api.CFoot, 0, at(0, 0), at(1, 0), 0, false, "water on foot"},
		{drawn(".~", "$*"), nil, api.CHover, 0, at(1, 0), at(0, 1), 20, true, "over water"},
		{drawn(".~", "$*"), nil, api.CFly, 0, at(1, 0), at(0, 1), 14, true, "over a corner"},
	}
	for _, c := range cases {
		if cost, ok := cluster.Inner(c.m, c.blocked, c.class, c.in, c.a, c.b); cost != c.cost || ok != c.ok {
			t.Errorf("%s: Inner from %v to %v is %d, %v, want %d, %v", c.what, c.a, c.b, cost, ok, c.cost, c.ok)
		}
	}
}

// P15.3: the way through a maze of 8 by 8 cells, beside which the next cluster is open.
func TestInnerOfMaze(t *testing.T) {
	m := drawn(
		".........",
		"#######..",
		".........",
		".#######.",
		".........",
		"#######..",
		".........",
		".#######.",
	)
	if cost, ok := cluster.Inner(m, nil, api.CFoot, 0, at(0, 0), at(0, 7)); cost != 350 || !ok {
		t.Errorf("Inner through the maze: %d, %v", cost, ok)
	}
	m.Cells[9*1+7].Kind = api.TRock
	if cost, ok := cluster.Inner(m, nil, api.CFoot, 0, at(0, 0), at(0, 7)); cost != 0 || ok {
		t.Errorf("Inner where the way leads through the next cluster: %d, %v", cost, ok)
	}
}

// P15.3: random maps, from random cells to all cells of the cluster and some outside.
func TestInnerOfRandomMaps(t *testing.T) {
	random := rand.New(rand.NewSource(153))
	for i := range 300 {
		m := randomMap(random, 1+random.Intn(32), 1+random.Intn(32), i%6)
		d := model{m, randomBlocked(random, m), api.CFoot + i%3}
		a := d.at(random.Intn(len(m.Cells)))
		costs := d.costs(a)
		for _, in := range []int{d.of(a), random.Intn(d.count())} {
			for j := range m.Cells {
				b := d.at(j)
				want, inside := costs[b]
				wantOK := inside && want >= 0 && in == d.of(a)
				if !wantOK {
					want = 0
				}
				if cost, ok := cluster.Inner(m, d.blocked, d.class, in, a, b); cost != want || ok != wantOK {
					t.Fatalf("Inner for the class %d from %v to %v in the cluster %d of %v with %v is %d, %v, want %d, %v", d.class, a, b, in, m, d.blocked, cost, ok, want, wantOK)
				}
			}
		}
	}
}

// P15.3: clusters, classes, maps and cells that are not valid.
func TestInnerOfInvalid(t *testing.T) {
	none := func(m api.Map, class, in int, a, b api.Pos) {
		t.Helper()
		if cost, ok := cluster.Inner(m, nil, class, in, a, b); cost != 0 || ok {
			t.Errorf("Inner for the class %d from %v to %v in the cluster %d of %v: %d, %v", class, a, b, in, m, cost, ok)
		}
	}
	for _, m := range invalidMaps() {
		for class := range 5 {
			none(m, class, 0, at(0, 0), at(0, 0))
			none(m, class, 0, at(0, 0), at(1, 0))
		}
	}
	spoilt := flat(9, 1)
	spoilt.Cells[8].Amount = 1
	none(spoilt, api.CFly, 0, at(0, 0), at(1, 0))
	for _, class := range noClasses() {
		none(flat(9, 9), class, 0, at(0, 0), at(0, 0))
		none(flat(9, 9), class, 0, at(0, 0), at(7, 7))
	}
	for _, in := range wrong(4) {
		none(flat(9, 9), api.CFly, in, at(0, 0), at(0, 0))
		none(flat(9, 9), api.CFoot, in, at(8, 8), at(8, 8))
	}
	for in := range 4 {
		for _, p := range outside(9, 9) {
			for _, q := range cells(0, 0, 8, 0, 0, 8, 8, 8) {
				none(flat(9, 9), api.CFly, in, p, q)
				none(flat(9, 9), api.CFly, in, q, p)
				none(flat(9, 9), api.CFly, in, p, p)
			}
		}
	}
}

// P15.3: the arguments stay as they are.
func TestInnerKeepsArguments(t *testing.T) {
	m := drawn("..1", ".#2", "~$.")
	blocked := []bool{false, true, false}
	if _, ok := cluster.Inner(m, blocked, api.CHover, 0, at(0, 0), at(2, 2)); !ok {
		t.Errorf("Inner finds no way")
	}
	if !slices.Equal(m.Cells, drawn("..1", ".#2", "~$.").Cells) || !slices.Equal(blocked, []bool{false, true, false}) {
		t.Errorf("Inner changed its arguments: %v, %v", m, blocked)
	}
}
