package flow_test

import (
	"math/rand"
	"slices"
	"testing"

	"skirmish/api"
	"skirmish/astar"
	"skirmish/flow"
)

// checkBuild compares the result of Build with the model, and returns it.
func checkBuild(t *testing.T, d model, goals []api.Pos) (api.Field, api.Errno) {
	t.Helper()
	f, e := flow.Build(d.m, d.blocked, d.class, goals)
	if want, wantError := d.build(goals); !equal(f, want) || e != wantError {
		t.Fatalf("Build of class %d to %v in %v with %v: %v, %d, want %v, %d", d.class, goals, d.m, d.blocked, f, e, want, wantError)
	}
	return f, e
}

// P17.1: the example of the chapter.
func TestBuildExample(t *testing.T) {
	f, e := flow.Build(flat(3, 1), nil, api.CFoot, cells(2, 0))
	if want := (api.Field{Class: api.CFoot, Goals: cells(2, 0), Cost: []int{20, 10, 0}, Dir: []int{0, 0, -1}}); !equal(f, want) || e != api.OK {
		t.Errorf("Build is %v, %d, want %v", f, e, want)
	}
	if path := flow.Follow(f, flat(3, 1), at(0, 0)); !slices.Equal(path, cells(0, 0, 1, 0, 2, 0)) {
		t.Errorf("Follow is %v", path)
	}
	if f, e := flow.Build(flat(3, 1), nil, api.CFoot, nil); !equal(f, api.Field{}) || e != api.ErrLimit {
		t.Errorf("Build without goals is %v, %d", f, e)
	}
}

// P17.1: fields found by hand.
func TestBuild(t *testing.T) {
	rock, terrace := drawn("...", ".#.", "..."), drawn(".12", "..3")
	cases := []struct {
		what      string
		m         api.Map
		blocked   []bool
		class     int
		goals     []api.Pos
		cost, dir []int
	}{
		{"one cell", flat(1, 1), nil, api.CFoot, cells(0, 0), []int{0}, []int{-1}},
		{"all directions", flat(3, 3), nil, api.CFoot, cells(1, 1), []int{14, 10, 14, 10, 0, 10, 14, 10, 14}, []int{1, 2, 3, 0, -1, 4, 7, 6, 5}},
		{"east before southeast", flat(3, 2), nil, api.CHover, cells(2, 1), []int{24, 14, 10, 20, 10, 0}, []int{0, 1, 2, 0, 0, -1}},
		{"southwest before west", flat(3, 2), nil, api.CFly, cells(0, 1), []int{10, 14, 24, 0, 10, 20}, []int{2, 3, 3, -1, 4, 4}},
		{"east before northeast", flat(3, 2), nil, api.CFoot, cells(2, 0), []int{20, 10, 0, 24, 14, 10}, []int{0, 0, -1, 0, 7, 6}},
		{"west before northwest", flat(2, 3), nil, api.CFoot, cells(0, 0), []int{0, 10, 10, 14, 20, 24}, []int{-1, 4, 6, 5, 6, 5}},
		{"around a rock", rock, nil, api.CFoot, cells(0, 0), []int{0, 10, 20, 10, -1, 30, 20, 30, 40}, []int{-1, 4, 4, 6, -1, 6, 6, 4, 4}},
		{"over a rock", rock, nil, api.CFly, cells(0, 0), []int{0, 10, 20, 10, 14, 24, 20, 24, 28}, []int{-1, 4, 4, 6, 5, 4, 6, 5, 5}},
		{"over terraces", terrace, nil, api.CFoot, cells(0, 0), []int{0, 15, 30, 10, 14, 45}, []int{-1, 4, 4, 6, 5, 6}},
		{"terraces from above", terrace, nil, api.CHover, cells(2, 1), []int{45, 30, 15, 49, 45, 0}, []int{0, 0, 2, 7, 6, -1}},
		{"terraces by air", terrace, nil, api.CFly, cells(2, 1), []int{24, 14, 10, 20, 10, 0}, []int{0, 1, 2, 0, 0, -1}},
		{"a cliff", drawn(".2."), nil, api.CFoot, cells(0, 0), []int{0, -1, -1}, []int{-1, -1, -1}},
		{"water on foot", drawn(".~."), nil, api.CFoot, cells(0, 0), []int{0, -1, -1}, []int{-1, -1, -1}},
		{"water", drawn(".~."), nil, api.CHover, cells(1, 0), []int{10, 0, 10}, []int{0, -1, 4}},
		{"ore and a forest", drawn(".$*."), nil, api.CFoot, cells(0, 0), []int{0, 10, -1, -1}, []int{-1, 4, -1, -1}},
		{"a forest by air", drawn(".$*."), nil, api.CFly, cells(2, 0), []int{20, 10, 0, 10}, []int{0, 0, -1, 4}},
		{"two goals", flat(5, 1), nil, api.CFoot, cells(4, 0, 1, 0), []int{10, 0, 10, 10, 0}, []int{0, -1, 4, 0, -1}},
		{"two goals at the same distance", flat(5, 1), nil, api.CFoot, cells(4, 0, 0, 0), []int{0, 10, 20, 10, 0}, []int{-1, 4, 0, 0, -1}},
		{"goals beside each other, one of them twice", flat(4, 1), nil, api.CFoot, cells(2, 0, 1, 0, 2, 0), []int{10, 0, 0, 10}, []int{0, -1, -1, 4}},
		{"a goal that is cut off", drawn("..#."), nil, api.CHover, cells(3, 0, 0, 0), []int{0, 10, -1, 0}, []int{-1, 4, -1, -1}},
		{"eight goals", flat(3, 3), nil, api.CFoot, cells(0, 0, 1, 0, 2, 0, 0, 1, 2, 1, 0, 2, 1, 2, 2, 2), []int{0, 0, 0, 0, 10, 0, 0, 0, 0}, []int{-1, -1, -1, -1, 0, -1, -1, -1, -1}},
		{"blocked cells", flat(3, 2), []bool{false, true}, api.CFoot, cells(2, 0), []int{40, -1, 0, 30, 20, 10}, []int{2, -1, -1, 0, 0, 6}},
		{"blocked cells by air", flat(3, 2), []bool{false, true, true}, api.CFly, cells(2, 0), []int{20, 10, 0, 24, 14, 10}, []int{0, 0, -1, 0, 7, 6}},
		{"a list of blocked cells that is too long", flat(3, 1), []bool{true, false, false, true, true}, api.CHover, cells(1, 0), []int{-1, 0, 10}, []int{-1, -1, 4}},
	}
	for _, c := range cases {
		f, e := flow.Build(c.m, c.blocked, c.class, c.goals)
		if want := (api.Field{Class: c.class, Goals: c.goals, Cost: c.cost, Dir: c.dir}); !equal(f, want) || e != api.OK {
			t.Errorf("%s: Build is %v, %d, want %v", c.what, f, e, want)
		}
	}
}

// P17.1: the errors, and which of them comes first.
func TestBuildErrors(t *testing.T) {
	m := drawn(".#.", "~2.")
	check := func(m api.Map, blocked []bool, class int, goals []api.Pos, want api.Errno) {
		t.Helper()
		if f, e := flow.Build(m, blocked, class, goals); e != want || want != api.OK && !equal(f, api.Field{}) {
			t.Errorf("Build of class %d to %v in %v with %v: %v, %d, want the error %d", class, goals, m, blocked, f, e, want)
		}
	}
	many := slices.Repeat(cells(0, 0), 9)
	for _, bad := range invalidMaps() {
		for class := range 5 {
			check(bad, nil, class, cells(0, 0), api.ErrArg)
			check(bad, nil, class, nil, api.ErrArg)
			check(bad, nil, class, many, api.ErrArg)
		}
	}
	for _, class := range noClasses() {
		check(m, nil, class, cells(0, 0), api.ErrArg)
		check(m, nil, class, []api.Pos{}, api.ErrArg)
		check(m, nil, class, many, api.ErrArg)
		check(m, nil, class, cells(1, 0), api.ErrArg)
	}
	for class := api.CFoot; class <= api.CFly; class++ {
		check(m, nil, class, nil, api.ErrLimit)
		check(m, nil, class, []api.Pos{}, api.ErrLimit)
		check(m, nil, class, many[:8], api.OK)
		check(m, nil, class, many, api.ErrLimit)
		check(m, nil, class, slices.Repeat(cells(5, 5), 9), api.ErrLimit)
		check(m, nil, class, slices.Repeat(cells(1, 0), 5000), api.ErrLimit)
		for _, p := range outside(3, 2) {
			check(m, nil, class, []api.Pos{p}, api.ErrArg)
			check(m, nil, class, []api.Pos{p, at(1, 0)}, api.ErrArg)
			check(m, nil, class, []api.Pos{at(1, 0), p}, api.ErrArg)
			check(m, nil, class, []api.Pos{at(0, 0), at(1, 0), p, at(0, 0)}, api.ErrArg)
		}
	}
	check(m, nil, api.CFoot, cells(1, 0), api.ErrBlocked)
	check(m, nil, api.CFoot, cells(0, 1), api.ErrBlocked)
	check(m, nil, api.CFoot, cells(0, 0, 2, 0, 0, 1), api.ErrBlocked)
	check(m, nil, api.CHover, cells(0, 1), api.OK)
	check(m, nil, api.CHover, cells(0, 1, 1, 0), api.ErrBlocked)
	check(m, nil, api.CHover, cells(1, 0, 0, 1), api.ErrBlocked)
	check(m, nil, api.CFly, cells(1, 0, 0, 1), api.OK)
	check(m, []bool{true}, api.CFoot, cells(0, 0), api.ErrBlocked)
	check(m, []bool{true}, api.CHover, cells(2, 0, 0, 0), api.ErrBlocked)
	check(m, []bool{true}, api.CFoot, cells(2, 0), api.OK)
	check(m, []bool{true}, api.CFly, cells(0, 0), api.OK)
}

// P17.1: random maps of all sorts, with goals that may not be free, or outside.
func TestBuildOfRandomMaps(t *testing.T) {
	random := rand.New(rand.NewSource(171))
	for i := range 1500 {
		d := randomModel(random, 9, i%8)
		goals := d.randomGoals(random)
		if random.Intn(8) == 0 {
			goals[random.Intn(len(goals))] = outside(d.m.W, d.m.H)[random.Intn(17)]
		}
		checkBuild(t, d, goals)
	}
}

// P17.1: the greatest maps.
func TestBuildOfLargeMaps(t *testing.T) {
	random := rand.New(rand.NewSource(172))
	for class := api.CFoot; class <= api.CFly; class++ {
		checkBuild(t, model{maze(), nil, class}, cells(0, 0))
		checkBuild(t, model{maze(), nil, class}, cells(3, 30, 31, 8))
		checkBuild(t, model{flat(32, 32), nil, class}, cells(31, 31, 0, 3))
		checkBuild(t, model{flat(32, 1), nil, class}, cells(31, 0))
		checkBuild(t, model{flat(1, 32), nil, class}, cells(0, 0, 0, 31))
		for rough := range 5 {
			m := randomMap(random, 32, 32-rough, rough)
			d := model{m, randomBlocked(random, m), class}
			checkBuild(t, d, d.randomGoals(random))
		}
	}
	// 16 rows of 31 steps each, and 15 times two steps from row to row, all of them up or down.
	if f, e := flow.Build(maze(), nil, api.CFoot, cells(0, 30)); e != api.OK || f.Cost[0] != 15*(16*31+15*2) {
		t.Errorf("Build in the maze: %v, %d", f, e)
	}
}

// P17.1: the costs are the least ones of layer 14, and with one goal the ways are those of layer 14.
func TestBuildAgreesWithPaths(t *testing.T) {
	random := rand.New(rand.NewSource(173))
	for i := range 300 {
		d := randomModel(random, 12, i%6)
		goals := d.randomGoals(random)
		f, e := flow.Build(d.m, d.blocked, d.class, goals)
		if e != api.OK {
			continue
		}
		costs := slices.Repeat([]int{-1}, len(d.m.Cells))
		for _, p := range goals {
			for j, cost := range astar.Reach(d.m, d.blocked, d.class, p) {
				if cost >= 0 && (costs[j] < 0 || cost < costs[j]) {
					costs[j] = cost
				}
			}
		}
		if !slices.Equal(f.Cost, costs) {
			t.Fatalf("Build of class %d to %v in %v with %v: %v, want the costs %v", d.class, goals, d.m, d.blocked, f, costs)
		}
		f, _ = flow.Build(d.m, d.blocked, d.class, goals[:1])
		for j := range d.m.Cells {
			want, _, _ := astar.Path(d.m, d.blocked, d.class, d.at(j), goals[0])
			if path := flow.Follow(f, d.m, d.at(j)); !slices.Equal(path, want) {
				t.Fatalf("Follow from %v to %v in %v with %v: %v, want %v", d.at(j), goals[0], d.m, d.blocked, path, want)
			}
		}
	}
}

// P17.7: exactly the goals have the cost 0, and each other free cell the least one over its neighbors.
func TestLocalConditions(t *testing.T) {
	random := rand.New(rand.NewSource(177))
	for i := range 600 {
		d := randomModel(random, 12, i%7)
		goals := d.randomGoals(random)
		f, e := flow.Build(d.m, d.blocked, d.class, goals)
		if e != api.OK {
			continue
		}
		for j, cost := range f.Cost {
			p, least := d.at(j), -1
			for _, q := range around(p) {
				if step := d.step(p, q); step > 0 && f.Cost[d.index(q)] >= 0 && (least < 0 || step+f.Cost[d.index(q)] < least) {
					least = step + f.Cost[d.index(q)]
				}
			}
			if slices.Contains(goals, p) {
				least = 0
			}
			if cost != least {
				t.Fatalf("Build of class %d to %v in %v with %v: %v, where %v has the cost %d, want %d", d.class, goals, d.m, d.blocked, f, p, cost, least)
			}
		}
	}
}

// Rule 0.4: the arguments are not changed, and the result is new memory.
func TestBuildKeepsArguments(t *testing.T) {
	m, blocked, goals := drawn("...1", ".#2~"), []bool{false, true, false, false, true}, cells(2, 0, 0, 0)
	ground := slices.Clone(m.Cells)
	f, e := flow.Build(m, blocked, api.CFoot, goals)
	want := clone(f)
	if !slices.Equal(m.Cells, ground) || !slices.Equal(blocked, []bool{false, true, false, false, true}) || !slices.Equal(goals, cells(2, 0, 0, 0)) || e != api.OK {
		t.Errorf("Build has changed an argument: %v, %v, %v, or returned %d", m, blocked, goals, e)
	}
	goals[0] = at(3, 0)
	if !equal(f, want) {
		t.Errorf("the field is %v after a change of the goals, want %v", f, want)
	}
	f.Cost[0], f.Dir[0], f.Goals[0] = 7, 7, at(7, 7)
	if second, _ := flow.Build(m, blocked, api.CFoot, want.Goals); !equal(second, want) {
		t.Errorf("Build is %v after a change of its result, want %v", second, want)
	}
}
