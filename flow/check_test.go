package flow_test

import (
	"math/rand"
	"slices"
	"testing"

	"skirmish/api"
	"skirmish/flow"
)

// P17.5: what Build returns, and the same with each number changed.
func TestCheck(t *testing.T) {
	for class := api.CFoot; class <= api.CFly; class++ {
		d := model{drawn("..1.", ".#~.", "$..."), []bool{false, false, false, true}, class}
		f := built(t, d, cells(0, 0, 3, 2))
		check := func(g api.Field, want bool) {
			t.Helper()
			if ok := flow.Check(g, d.m, d.blocked); ok != want {
				t.Errorf("Check of %v, which should be %v, is %v", g, f, ok)
			}
		}
		check(f, true)
		check(clone(f), true)
		for i := range f.Cost {
			for _, n := range []int{-2, -1, 0, 1, 2, 3, 4, 5, 6, 7, 8, 10, 14, maxInt, minInt} {
				g, h := clone(f), clone(f)
				g.Cost[i], h.Dir[i] = n, n
				check(g, n == f.Cost[i])
				check(h, n == f.Dir[i])
			}
		}
		short, long := clone(f), clone(f)
		short.Cost, long.Cost = short.Cost[:11], append(long.Cost, -1)
		check(short, false)
		check(long, false)
		short, long = clone(f), clone(f)
		short.Dir, long.Dir = short.Dir[:11], append(long.Dir, -1)
		check(short, false)
		check(long, false)
	}
}

// P17.5: the class and the goals are those of the field, whatever it was built for.
func TestCheckOfOtherGoals(t *testing.T) {
	m := drawn("....", ".#..")
	f := built(t, model{m, nil, api.CFoot}, cells(0, 0, 3, 1))
	cases := []struct {
		class int
		goals []api.Pos
		want  bool
	}{
		{api.CFoot, cells(0, 0, 3, 1), true},
		{api.CFoot, cells(3, 1, 0, 0), true},
		{api.CFoot, cells(3, 1, 0, 0, 3, 1, 3, 1), true},
		{api.CHover, cells(0, 0, 3, 1), true},
		{api.CFly, cells(0, 0, 3, 1), false},
		{api.CFoot, cells(0, 0), false},
		{api.CFoot, cells(0, 0, 3, 1, 2, 1), false},
		// Build returns an error.
		{0, cells(0, 0, 3, 1), false},
		{4, cells(0, 0, 3, 1), false},
		{api.CFoot, nil, false},
		{api.CFoot, slices.Repeat(cells(0, 0, 3, 1), 4), true},
		{api.CFoot, slices.Repeat(cells(0, 0, 3, 1, 0, 0), 3), false},
		{api.CFoot, cells(0, 0, 3, 1, 4, 0), false},
		{api.CFoot, cells(0, 0, 3, 1, 1, 1), false},
	}
	for i, c := range cases {
		f.Class, f.Goals = c.class, c.goals
		if ok := flow.Check(f, m, nil); ok != c.want {
			t.Errorf("case %d: Check of %v is %v", i, f, ok)
		}
	}
	if flow.Check(api.Field{}, m, nil) {
		t.Error("Check of a field that is empty is true")
	}
}

// P17.5: maps and blocked cells that are not those of the field, and maps that are not valid.
func TestCheckOfOtherMaps(t *testing.T) {
	d := model{flat(3, 2), nil, api.CFoot}
	f := built(t, d, cells(0, 0))
	cases := []struct {
		m       api.Map
		blocked []bool
		want    bool
	}{
		{flat(3, 2), nil, true},
		{flat(3, 2), make([]bool, 9), true},
		{drawn("$..", ".$."), nil, true},
		{drawn("111", "111"), nil, true},
		{flat(2, 3), nil, false},
		{flat(3, 3), nil, false},
		{flat(6, 1), nil, false},
		{drawn("...", "..1"), nil, false},
		{drawn("...", "..~"), nil, false},
		{flat(3, 2), []bool{true}, false},
		{flat(3, 2), []bool{false, false, true}, false},
		{flat(3, 2), []bool{false, false, false, false, false, true}, false},
		{flat(3, 2), []bool{false, false, false, false, false, false, true}, true},
	}
	for i, c := range cases {
		if ok := flow.Check(f, c.m, c.blocked); ok != c.want {
			t.Errorf("case %d: Check in %v with %v is %v", i, c.m, c.blocked, ok)
		}
	}
	for _, m := range invalidMaps() {
		n := len(m.Cells)
		g := api.Field{Class: api.CFly, Goals: cells(0, 0), Cost: make([]int, n), Dir: slices.Repeat([]int{-1}, n)}
		if flow.Check(f, m, nil) || flow.Check(g, m, nil) || flow.Check(api.Field{}, m, nil) {
			t.Errorf("Check in %v is true", m)
		}
	}
}

// P17.5: random fields, most of which have something wrong in them.
func TestCheckOfRandomFields(t *testing.T) {
	random := rand.New(rand.NewSource(180))
	for i := range 1500 {
		d := randomModel(random, 7, i%7)
		f, e := d.build(d.randomGoals(random))
		if e != api.OK {
			continue
		}
		s := f
		if i%3 > 0 {
			s = spoil(random, f)
		}
		after := d
		if i%5 > 2 {
			after, _ = d.change(random, 2)
		}
		want, e := model{after.m, after.blocked, s.Class}.build(s.Goals)
		right := e == api.OK && s.Class >= 1 && s.Class <= 3 && equal(s, want)
		if ok := flow.Check(s, after.m, after.blocked); ok != right {
			t.Fatalf("Check of %v in %v with %v is %v, want that of %v", s, after.m, after.blocked, ok, want)
		}
	}
}
