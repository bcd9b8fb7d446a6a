package flow_test

import (
	"math/rand"
	"slices"
	"testing"

	"skirmish/api"
	"skirmish/flow"
)

// built returns the field of free goals.
func built(t *testing.T, d model, goals []api.Pos) api.Field {
	t.Helper()
	f, e := flow.Build(d.m, d.blocked, d.class, goals)
	if e != api.OK {
		t.Fatalf("Build of class %d to %v in %v with %v: %d", d.class, goals, d.m, d.blocked, e)
	}
	return f
}

// checkUpdate compares the result of Update with the model, and returns it.
func checkUpdate(t *testing.T, f api.Field, d model, list []api.Pos) (api.Field, api.Errno) {
	t.Helper()
	g, e := flow.Update(f, d.m, d.blocked, list)
	if want, wantError := d.build(f.Goals); !equal(g, want) || e != wantError {
		t.Fatalf("Update of %v in %v with %v by %v: %v, %d, want %v, %d", f, d.m, d.blocked, list, g, e, want, wantError)
	}
	return g, e
}

// P17.4: changes found by hand, and the same ones undone.
func TestUpdate(t *testing.T) {
	cases := []struct {
		what          string
		before, after model
		goals, list   []api.Pos
		cost, dir     []int
	}{
		{
			"nothing", model{flat(3, 1), nil, api.CFoot}, model{flat(3, 1), nil, api.CFoot},
			cells(0, 0), nil, []int{0, 10, 20}, []int{-1, 4, 4},
		},
		{
			"a blocked cell", model{flat(4, 1), nil, api.CFoot}, model{flat(4, 1), []bool{false, false, true}, api.CFoot},
			cells(0, 0), cells(2, 0), []int{0, 10, -1, -1}, []int{-1, 4, -1, -1},
		},
		{
			"a blocked cell under flying units", model{flat(4, 1), nil, api.CFly}, model{flat(4, 1), []bool{false, false, true}, api.CFly},
			cells(0, 0), cells(2, 0), []int{0, 10, 20, 30}, []int{-1, 4, 4, 4},
		},
		{
			"a blocked corner", model{flat(2, 2), nil, api.CFoot}, model{flat(2, 2), []bool{false, true}, api.CFoot},
			cells(0, 0), cells(1, 0), []int{0, -1, 10, 20}, []int{-1, -1, 6, 4},
		},
		{
			"a blocked goal of two for flying units", model{flat(3, 1), nil, api.CFly}, model{flat(3, 1), []bool{true}, api.CFly},
			cells(0, 0, 2, 0), cells(0, 0), []int{0, 10, 0}, []int{-1, 0, -1},
		},
		{
			"a way around", model{flat(3, 2), nil, api.CHover}, model{drawn(".#.", "..."), nil, api.CHover},
			cells(0, 0), cells(1, 0), []int{0, -1, 40, 10, 20, 30}, []int{-1, -1, 2, 6, 4, 4},
		},
		{
			"another goal", model{flat(6, 1), nil, api.CFoot}, model{drawn(".#...."), nil, api.CFoot},
			cells(5, 0, 0, 0), cells(1, 0), []int{0, -1, 30, 20, 10, 0}, []int{-1, -1, 0, 0, 0, -1},
		},
		{
			"another direction of the same cost", model{flat(5, 1), nil, api.CFoot}, model{drawn(".1..."), nil, api.CFoot},
			cells(0, 0, 4, 0), cells(1, 0), []int{0, 15, 20, 10, 0}, []int{-1, 4, 0, 0, -1},
		},
		{
			"another direction of the same cost behind a corner", model{flat(3, 2), nil, api.CFoot}, model{drawn("..#", "..."), nil, api.CFoot},
			cells(2, 1), cells(2, 0), []int{24, 20, -1, 20, 10, 0}, []int{1, 2, -1, 0, 0, -1},
		},
		{
			"a rock beside a goal", model{flat(3, 3), nil, api.CFoot}, model{drawn("...", "#..", "..."), nil, api.CFoot},
			cells(0, 2), cells(0, 1), []int{40, 30, 34, -1, 20, 24, 0, 10, 20}, []int{0, 2, 2, -1, 2, 3, -1, 4, 4},
		},
		{
			"a hill", model{flat(5, 1), nil, api.CFoot}, model{drawn("..1.."), nil, api.CFoot},
			cells(0, 0), cells(2, 0), []int{0, 10, 25, 40, 50}, []int{-1, 4, 4, 4, 4},
		},
		{
			"a plateau", model{flat(5, 1), nil, api.CFoot}, model{drawn("..111"), nil, api.CFoot},
			cells(0, 0), cells(4, 0, 2, 0, 3, 0, 3, 0), []int{0, 10, 25, 35, 45}, []int{-1, 4, 4, 4, 4},
		},
		{
			"ground in water", model{drawn(".~.~."), nil, api.CFoot}, model{drawn("...~."), nil, api.CFoot},
			cells(0, 0), cells(1, 0), []int{0, 10, 20, -1, -1}, []int{-1, 4, 4, -1, -1},
		},
	}
	for _, c := range cases {
		want := api.Field{Class: c.after.class, Goals: c.goals, Cost: c.cost, Dir: c.dir}
		f := built(t, c.before, c.goals)
		g, e := flow.Update(f, c.after.m, c.after.blocked, c.list)
		if !equal(g, want) || e != api.OK {
			t.Errorf("%s: Update is %v, %d, want %v", c.what, g, e, want)
		}
		if h, e := flow.Update(want, c.before.m, c.before.blocked, c.list); !equal(h, f) || e != api.OK {
			t.Errorf("%s undone: Update is %v, %d, want %v", c.what, h, e, f)
		}
	}
}

// P17.4: each cell of a map becomes a hill, a cliff, water, a rock, or blocked, and what it was.
func TestUpdateOfEachCell(t *testing.T) {
	before := drawn("....#...", ".#..1...", ".#.111#.", "...12~~.", "........")
	for class := api.CFoot; class <= api.CFly; class++ {
		d := model{before, nil, class}
		f := built(t, d, cells(0, 0, 7, 4))
		for i := range before.Cells {
			for _, c := range []api.Cell{{Kind: api.TGround}, {Kind: api.TGround, Height: 1}, {Kind: api.TGround, Height: 3}, {Kind: api.TWater}, {Kind: api.TRock}, before.Cells[i]} {
				after := model{flat(8, 5), make([]bool, 40), class}
				copy(after.m.Cells, before.Cells)
				after.m.Cells[i] = c
				after.blocked[i] = c == before.Cells[i]
				if g, e := checkUpdate(t, f, after, []api.Pos{d.at(i)}); e == api.OK {
					checkUpdate(t, g, d, []api.Pos{d.at(i)})
				}
			}
		}
	}
}

// change returns another map and other blocked cells, and a list of cells with those that have changed.
func (d model) change(random *rand.Rand, most int) (model, []api.Pos) {
	m := d.m
	m.Cells = slices.Clone(m.Cells)
	// At the end of the list, a cell that is not blocked may be there or not.
	blocked := append(slices.Clone(d.blocked), make([]bool, random.Intn(9))...)
	fresh := randomMap(random, m.W, m.H, 3+random.Intn(7))
	var list []api.Pos
	for range random.Intn(most + 1) {
		i := random.Intn(len(m.Cells))
		switch {
		case random.Intn(9) == 0:
		case i < len(blocked) && random.Intn(2) == 0:
			blocked[i] = !blocked[i]
		default:
			m.Cells[i] = fresh.Cells[i]
		}
		list = append(list, d.at(i))
	}
	if random.Intn(4) == 0 {
		list = append(list, outside(m.W, m.H)[random.Intn(17)])
	}
	random.Shuffle(len(list), func(i, j int) { list[i], list[j] = list[j], list[i] })
	return model{m, blocked, d.class}, list
}

// P17.4: change after change on random maps, until a goal is not free.
func TestUpdateOfRandomMaps(t *testing.T) {
	random := rand.New(rand.NewSource(175))
	for i := range 500 {
		d := randomModel(random, 10, i%7)
		f, e := d.build(d.randomGoals(random))
		for j := 0; j < 12 && e == api.OK; j++ {
			var list []api.Pos
			d, list = d.change(random, 1+i%6)
			f, e = checkUpdate(t, f, d, list)
		}
	}
}

// P17.4: change after change on the greatest maps; also long ways that become longer and shorter.
func TestUpdateOfLargeMaps(t *testing.T) {
	random := rand.New(rand.NewSource(178))
	for i := range 6 {
		m := randomMap(random, 32, 32, i%4)
		d := model{m, randomBlocked(random, m), api.CFoot + i%3}
		f, e := d.build(d.randomGoals(random))
		for j := 0; j < 6 && e == api.OK; j++ {
			var list []api.Pos
			d, list = d.change(random, 1+20*(i%2))
			f, e = checkUpdate(t, f, d, list)
		}
	}
	d := model{maze(), nil, api.CFoot}
	f := built(t, d, cells(0, 0))
	for _, p := range cells(15, 0, 0, 3, 16, 1, 16, 15) {
		after := model{maze(), nil, api.CFoot}
		after.m.Cells[d.index(p)] = api.Cell{Kind: api.TGround, Height: 2}
		g, _ := checkUpdate(t, f, after, []api.Pos{p})
		checkUpdate(t, g, d, []api.Pos{p})
	}
}

// P17.4: the whole map changes, by a list of all cells.
func TestUpdateOfAllCells(t *testing.T) {
	random := rand.New(rand.NewSource(179))
	for i := range 150 {
		d := randomModel(random, 9, i%7)
		f, e := d.build(d.randomGoals(random))
		if e != api.OK {
			continue
		}
		m := randomMap(random, d.m.W, d.m.H, i%5)
		var list []api.Pos
		for j := range m.Cells {
			list = append(list, d.at(j))
		}
		checkUpdate(t, f, model{m, randomBlocked(random, m), d.class}, list)
	}
}

// P17.4: the errors of Build, which the change may bring about.
func TestUpdateErrors(t *testing.T) {
	m := flat(4, 2)
	f := built(t, model{m, nil, api.CFoot}, cells(0, 0, 3, 1))
	check := func(m api.Map, blocked []bool, list []api.Pos, want api.Errno) {
		t.Helper()
		if g, e := flow.Update(f, m, blocked, list); !equal(g, api.Field{}) || e != want {
			t.Errorf("Update in %v with %v: %v, %d, want the error %d", m, blocked, g, e, want)
		}
	}
	check(m, []bool{true}, cells(0, 0), api.ErrBlocked)
	check(m, []bool{false, false, false, false, false, false, false, true}, cells(3, 1), api.ErrBlocked)
	check(drawn("....", "...~"), nil, cells(3, 1), api.ErrBlocked)
	check(drawn("#...", "...."), []bool{true}, cells(0, 0), api.ErrBlocked)
	for _, c := range []api.Cell{{}, {Kind: 6}, {Kind: 1, Height: 4}, {Kind: 1, Amount: 1}, {Kind: 5}} {
		for i := range 8 {
			bad := flat(4, 2)
			bad.Cells[i] = c
			check(bad, []bool{true}, cells(i%4, i/4), api.ErrArg)
		}
	}
	// What Build returns together with an error has no class and no goals.
	if g, e := flow.Update(api.Field{}, m, nil, nil); !equal(g, api.Field{}) || e != api.ErrArg {
		t.Errorf("Update of a field that is empty: %v, %d", g, e)
	}
}

// spoil returns the field with something wrong in it.
func spoil(random *rand.Rand, f api.Field) api.Field {
	numbers := []int{0, 1, -1, -2, 7, 8, 10, 14, 20, 1 << 10, 19 << 10, 20 << 10, 1 << 16, 1 << 32, maxInt, maxInt - 10, minInt}
	number := func() int { return numbers[random.Intn(len(numbers))] }
	s := clone(f)
	for range 1 + random.Intn(5) {
		i := random.Intn(len(s.Cost))
		switch random.Intn(8) {
		case 0, 1:
			s.Cost[i] = number()
		case 2, 3:
			s.Dir[i] = number()
		case 4:
			s.Cost[i], s.Dir[i] = random.Intn(60)-1, random.Intn(9)-1
		case 5:
			s.Goals[random.Intn(len(s.Goals))] = at(random.Intn(5), random.Intn(5))
		case 6:
			s.Class = random.Intn(5)
		}
	}
	switch random.Intn(9) {
	case 0:
		s.Cost = append(s.Cost, number())
	case 1:
		s.Dir = append(s.Dir, number())
	case 2:
		s.Cost = s.Cost[1:]
	case 3:
		s.Dir = nil
	case 4:
		s.Goals = append(s.Goals, at(number(), number()))
	}
	return s
}

// P17.4 promises of other arguments that each call ends (rule 0.1).
func TestUpdateOfOtherFields(t *testing.T) {
	random := rand.New(rand.NewSource(170))
	maps := invalidMaps()
	for i := range 3000 {
		d := randomModel(random, 8, i%6)
		f, e := d.build(d.randomGoals(random))
		if e != api.OK {
			continue
		}
		s := spoil(random, f)
		after, list := d.change(random, 5)
		flow.Update(s, after.m, after.blocked, list)
		flow.Update(s, d.m, d.blocked, nil)
		flow.Update(f, after.m, after.blocked, list[:len(list)/2])
		other := randomModel(random, 8, i%6)
		flow.Update(s, other.m, other.blocked, list)
		flow.Update(s, maps[i%len(maps)], after.blocked, list)
		flow.Check(s, after.m, after.blocked)
	}
}

// Rule 0.1: very many cells, and costs that cannot be.
func TestUpdateOfHugeArguments(t *testing.T) {
	d := model{flat(32, 32), nil, api.CFoot}
	f := built(t, d, cells(3, 3))
	list := slices.Repeat(cells(5, 5, 6, 6, -1, 0, maxInt, minInt), 1<<17)
	if g, e := flow.Update(f, d.m, nil, list); !equal(g, f) || e != api.OK {
		t.Errorf("Update of very many cells: %v, %d", g, e)
	}
	for _, cost := range []int{maxInt, maxInt - 5, 1 << 40, 1 << 20, -2, minInt} {
		s := clone(f)
		for i := range s.Cost {
			s.Cost[i] = cost
		}
		flow.Update(s, d.m, nil, cells(9, 9))
	}
}

// Rule 0.4: the arguments are not changed, and the result is new memory.
func TestUpdateKeepsArguments(t *testing.T) {
	m, blocked, list := drawn("....", ".#.."), []bool{false, false, true}, cells(2, 0, 1, 1)
	f := built(t, model{flat(4, 2), nil, api.CFoot}, cells(0, 0, 3, 1))
	want := clone(f)
	g, _ := flow.Update(f, m, blocked, list)
	if !equal(f, want) || !slices.Equal(m.Cells, drawn("....", ".#..").Cells) || !slices.Equal(blocked, []bool{false, false, true}) || !slices.Equal(list, cells(2, 0, 1, 1)) {
		t.Errorf("Update has changed an argument: %v, %v, %v, %v", f, m, blocked, list)
	}
	for _, h := range []api.Field{g, updated(f)} {
		for i := range h.Cost {
			h.Cost[i], h.Dir[i] = 7, 7
		}
		h.Goals[0] = at(7, 7)
	}
	if !equal(f, want) {
		t.Errorf("the result of Update shares memory with the field: %v", f)
	}
}

// updated returns the field after no change of its map, which is flat.
func updated(f api.Field) api.Field {
	g, _ := flow.Update(f, flat(4, 2), nil, nil)
	return g
}
