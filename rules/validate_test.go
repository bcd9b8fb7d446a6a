package rules_test

import (
	"math"
	"math/rand"
	"slices"
	"strings"
	"testing"

	"skirmish/api"
	"skirmish/rules"
)

// change is a change of the sample rules, and what Validate must return then.
type change struct {
	make func(r *api.Rules)
	want api.Errno
}

// check checks the changes, each made to rules of its own.
func check(t *testing.T, list []change) {
	t.Helper()
	for i, c := range list {
		r := sample()
		c.make(&r)
		if e := rules.Validate(r); e != c.want {
			t.Errorf("change %d: %d, want %d", i, e, c.want)
		}
		if names, e := rules.Order(r); e != c.want || e != api.OK && len(names) != 0 {
			t.Errorf("Order after change %d: %v, %d", i, names, e)
		}
	}
}

// name returns names that ascend with i.
func name(i int) string { return "n" + string([]byte{byte('a' + i/26), byte('a' + i%26)}) }

// worker returns a valid unit with a name.
func worker(name string) api.UnitType {
	return api.UnitType{Name: name, Class: 1, Radius: 16, Hp: 1}
}

// building returns a valid building with a name.
func building(name string, needs ...string) api.UnitType {
	return api.UnitType{Name: name, Building: true, W: 1, H: 1, Hp: 1, Needs: needs}
}

// tech returns a valid technology of the unit type "unit" with a name.
func tech(name string, needs ...string) api.Tech {
	return api.Tech{Name: name, Unit: "unit", Stat: 1, Needs: needs}
}

// of returns rules with the unit type "unit" and others, sorted by name.
func of(units []api.UnitType, techs ...api.Tech) api.Rules {
	r := api.Rules{Units: append([]api.UnitType{worker("unit")}, units...), Techs: techs}
	slices.SortFunc(r.Units, func(a, b api.UnitType) int { return strings.Compare(a.Name, b.Name) })
	slices.SortFunc(r.Techs, func(a, b api.Tech) int { return strings.Compare(a.Name, b.Name) })
	return r
}

// P9.2: rules that are valid.
func TestValid(t *testing.T) {
	for i, r := range []api.Rules{
		{}, {Units: []api.UnitType{}, Weapons: []api.Weapon{}, Techs: []api.Tech{}}, sample(), of(nil), of(nil, tech("tech")),
		{Units: []api.UnitType{worker("a")}}, {Units: []api.UnitType{building("a")}}, {Weapons: []api.Weapon{{Name: "a"}}},
		// Weapons may have the names of other elements.
		{Units: []api.UnitType{worker("a"), worker("unit")}, Weapons: []api.Weapon{{Name: "a"}, {Name: "b"}}, Techs: []api.Tech{tech("b")}},
	} {
		if e := rules.Validate(r); e != api.OK {
			t.Errorf("rules %d: %d", i, e)
		}
	}
}

// P9.2, 1: the numbers of elements.
func TestNumbersOfElements(t *testing.T) {
	for n := range 40 {
		units, weapons, techs := of(nil), of(nil), of(nil)
		for i := range n {
			units.Units = append(units.Units, worker("v"+name(i)))
			weapons.Weapons = append(weapons.Weapons, api.Weapon{Name: name(i)})
			techs.Techs = append(techs.Techs, tech(name(i)))
		}
		for _, c := range []struct {
			r   api.Rules
			bad bool
		}{{units, n+1 > 16}, {weapons, n > 8}, {techs, n > 12}} {
			want := api.OK
			if c.bad {
				want = api.ErrLimit
			}
			if e := rules.Validate(c.r); e != want {
				t.Errorf("%d unit types, %d weapons, %d technologies: %d, want %d", len(c.r.Units), len(c.r.Weapons), len(c.r.Techs), e, want)
			}
		}
	}
	for i, r := range []api.Rules{{Units: make([]api.UnitType, 100000)}, {Weapons: make([]api.Weapon, 100000)}, {Techs: make([]api.Tech, 100000)}} {
		if e := rules.Validate(r); e != api.ErrLimit {
			t.Errorf("large rules %d: %d", i, e)
		}
	}
}

// P9.2, 1: the numbers of names in the lists.
func TestNumbersOfNames(t *testing.T) {
	for n := range 10 {
		var units []api.UnitType
		var techs []api.Tech
		var types, others []string
		for i := range n {
			types, others = append(types, "a"+name(i)), append(others, "b"+name(i))
			units, techs = append(units, building("a"+name(i))), append(techs, tech("b"+name(i)))
		}
		lists := []api.Rules{of(append(units, building("c", types...)), techs...), of(append(units, building("c", others...)), techs...), of(units, append(techs, tech("c", types...))...), of(units, append(techs, tech("c", others...))...)}
		builder, laboratory := worker("c"), building("c")
		builder.Trains, laboratory.Researches = types, others
		lists = append(lists, of(append(units, builder), techs...), of(append(units, laboratory), techs...))
		want := api.OK
		if n > 4 {
			want = api.ErrLimit
		}
		for i, r := range lists {
			if e := rules.Validate(r); e != want {
				t.Errorf("list %d with %d names: %d", i, n, e)
			}
		}
	}
	five := make([]string, 5)
	for i := range 4 {
		check(t, []change{
			{func(r *api.Rules) { r.Units[i].Needs = five }, api.ErrLimit},
			{func(r *api.Rules) { r.Units[i].Trains = five }, api.ErrLimit},
			{func(r *api.Rules) { r.Units[i].Researches = five }, api.ErrLimit},
			{func(r *api.Rules) { r.Techs[i%2].Needs = five }, api.ErrLimit},
			{func(r *api.Rules) { r.Techs[i%2].Needs = make([]string, 100000) }, api.ErrLimit},
		})
	}
}

// P9.2, 2
func TestNamesOfElements(t *testing.T) {
	for _, s := range texts() {
		want := api.OK
		if !isName(s) {
			want = api.ErrName
		}
		// All other names are less, or greater.
		rest := []api.Rules{
			{Units: []api.UnitType{worker(s)}}, {Weapons: []api.Weapon{{Name: s}}}, {Units: []api.UnitType{worker("unit")}, Techs: []api.Tech{tech(s)}},
		}
		for i, r := range rest {
			if e := rules.Validate(r); e != want && s != "unit" {
				t.Errorf("element %d with the name %q: %d, want %d", i, s, e, want)
			}
		}
	}
	for i := range 4 {
		check(t, []change{
			{func(r *api.Rules) { r.Units[i].Name += "-" }, api.ErrName},
			{func(r *api.Rules) { r.Weapons[i%2].Name = "" }, api.ErrName},
			{func(r *api.Rules) { r.Techs[i%2].Name += "X" }, api.ErrName},
		})
	}
}

// P9.2, 3: pairs of names in all places where names must ascend.
func TestAscendingNames(t *testing.T) {
	names := []string{"a", "aa", "ab", "a0", "a_", "b", "z", "z9", "abcdefghijkl", "abcdefghijkk"}
	for _, p := range names {
		for _, q := range names {
			want := api.OK
			if p >= q {
				want = api.ErrOrder
			}
			pair := []string{p, q}
			builder, laboratory, factory := worker("unit"), building("zz"), building("zz")
			builder.Trains, laboratory.Researches, factory.Trains = pair, pair, pair
			buildings := []api.UnitType{building(min(p, q)), building(max(p, q))}
			units := []api.UnitType{worker(min(p, q)), worker(max(p, q))}
			techs := []api.Tech{tech(min(p, q)), tech(max(p, q))}
			if p == q {
				buildings, units, techs = buildings[:1], units[:1], techs[:1]
			}
			list := []api.Rules{
				{Units: []api.UnitType{worker(p), worker(q)}}, {Weapons: []api.Weapon{{Name: p}, {Name: q}}},
				{Units: []api.UnitType{worker("unit")}, Techs: []api.Tech{tech(p), tech(q)}},
				of(append(buildings, building("zz", pair...))), of(buildings, tech("zz", pair...)), of([]api.UnitType{building("zz", pair...)}, techs...), of(nil, append(techs, tech("zz", pair...))...),
				of([]api.UnitType{laboratory}, techs...), of(append(units, factory)),
			}
			built := of(buildings)
			i := slices.IndexFunc(built.Units, func(u api.UnitType) bool { return u.Name == "unit" })
			built.Units[i] = builder
			for i, r := range append(list, built) {
				if e := rules.Validate(r); e != want {
					t.Errorf("names %q and %q in the place %d: %d, want %d", p, q, i, e, want)
				}
			}
		}
	}
}

// P9.2, 3: names that do not ascend at any place of a longer list.
func TestAscendingLists(t *testing.T) {
	for n := 2; n <= 4; n++ {
		for i := 1; i < n; i++ {
			var r api.Rules
			var names []string
			for k := range n {
				r.Units = append(r.Units, building(name(k)))
				r.Weapons = append(r.Weapons, api.Weapon{Name: name(k)})
				names = append(names, name(k))
			}
			units, weapons, lists := r, r, r
			units.Units, weapons.Weapons, lists.Units = slices.Clone(r.Units), slices.Clone(r.Weapons), append(slices.Clone(r.Units), building("z", names...))
			if e := rules.Validate(lists); e != api.OK {
				t.Errorf("%d names: %d", n, e)
			}
			units.Units[i-1], units.Units[i] = units.Units[i], units.Units[i-1]
			weapons.Weapons[i] = weapons.Weapons[i-1]
			names[i-1], names[i] = names[i], names[i-1]
			for k, x := range []api.Rules{units, weapons, lists} {
				if e := rules.Validate(x); e != api.ErrOrder {
					t.Errorf("list %d of %d names, which do not ascend at %d: %d", k, n, i, e)
				}
			}
		}
	}
}

// P9.2, 4
func TestSharedNames(t *testing.T) {
	for _, u := range sample().Units {
		check(t, []change{
			{func(r *api.Rules) { r.Techs = []api.Tech{{Name: u.Name}} }, api.ErrDuplicate},
			{func(r *api.Rules) { r.Techs = []api.Tech{{Name: "a"}, {Name: u.Name}, {Name: "zz"}} }, api.ErrDuplicate},
		})
	}
	// Weapons may have the names of unit types and technologies.
	check(t, []change{
		{func(r *api.Rules) { r.Weapons = append([]api.Weapon{{Name: "armor"}, {Name: "base"}}, r.Weapons...) }, api.OK},
	})
}

// numbers are numbers around all bounds, and the edges of int.
func numbers() []int {
	list := []int{math.MinInt, math.MinInt + 1, math.MaxInt - 1, math.MaxInt, 1 << 31, 1 << 32, 1<<32 + 1, 1<<32 + 16, -1 << 31, -1 << 32, -100000}
	for _, n := range []int{0, 3, 4, 6, 16, 128, 256, 512, 1024, 8192, 100000} {
		list = append(list, n-2, n-1, n, n+1, n+2)
	}
	return list
}

// field is a number in the rules and its range.
type field struct {
	name        string
	least, most int
	at          func(r *api.Rules) *int
}

// unitFields are the numbers of a unit type of the sample, by the table of the chapter.
func unitFields(i int) []field {
	at := func(get func(u *api.UnitType) *int) func(r *api.Rules) *int {
		return func(r *api.Rules) *int { return get(&r.Units[i]) }
	}
	list := []field{
		{"Sight", 0, 16, at(func(u *api.UnitType) *int { return &u.Sight })}, {"Hp", 1, 100000, at(func(u *api.UnitType) *int { return &u.Hp })}, {"Armor", 0, 100000, at(func(u *api.UnitType) *int { return &u.Armor })},
		{"Ore", 0, 100000, at(func(u *api.UnitType) *int { return &u.Ore })}, {"Wood", 0, 100000, at(func(u *api.UnitType) *int { return &u.Wood })}, {"Time", 0, 100000, at(func(u *api.UnitType) *int { return &u.Time })},
		{"Class", 1, 3, at(func(u *api.UnitType) *int { return &u.Class })}, {"W", 0, 0, at(func(u *api.UnitType) *int { return &u.W })}, {"H", 0, 0, at(func(u *api.UnitType) *int { return &u.H })},
		{"Radius", 16, 128, at(func(u *api.UnitType) *int { return &u.Radius })}, {"Speed", 0, 256, at(func(u *api.UnitType) *int { return &u.Speed })}, {"Load", 0, 100000, at(func(u *api.UnitType) *int { return &u.Load })},
	}
	if sample().Units[i].Building {
		for k, bounds := range [][2]int{{0, 0}, {1, 4}, {1, 4}, {0, 0}, {0, 0}, {0, 0}} {
			list[6+k].least, list[6+k].most = bounds[0], bounds[1]
		}
	}
	return list
}

// otherFields are the numbers of a weapon and a technology of the sample.
func otherFields(i int) []field {
	return []field{
		{"Weapon.Range", 0, 8192, func(r *api.Rules) *int { return &r.Weapons[i].Range }}, {"Weapon.Damage", 0, 100000, func(r *api.Rules) *int { return &r.Weapons[i].Damage }}, {"Weapon.Cool", 0, 100000, func(r *api.Rules) *int { return &r.Weapons[i].Cool }},
		{"Weapon.Speed", 0, 512, func(r *api.Rules) *int { return &r.Weapons[i].Speed }}, {"Weapon.Splash", 0, 1024, func(r *api.Rules) *int { return &r.Weapons[i].Splash }},
		{"Tech.Ore", 0, 100000, func(r *api.Rules) *int { return &r.Techs[i].Ore }}, {"Tech.Wood", 0, 100000, func(r *api.Rules) *int { return &r.Techs[i].Wood }}, {"Tech.Time", 0, 100000, func(r *api.Rules) *int { return &r.Techs[i].Time }},
		{"Tech.Amount", 0, 100000, func(r *api.Rules) *int { return &r.Techs[i].Amount }}, {"Tech.Stat", 1, 6, func(r *api.Rules) *int { return &r.Techs[i].Stat }},
	}
}

// P9.2, 5: the ranges of all numbers of all elements.
func TestRanges(t *testing.T) {
	list := slices.Concat(unitFields(0), unitFields(1), unitFields(2), unitFields(3), otherFields(0), otherFields(1))
	for i, f := range list {
		for _, n := range numbers() {
			r, want := sample(), api.OK
			*f.at(&r) = n
			if n < f.least || n > f.most {
				want = api.ErrArg
			}
			if e := rules.Validate(r); e != want {
				t.Errorf("field %d: %s = %d: %d, want %d", i, f.name, n, e, want)
			}
		}
	}
}

// P9.2, 5: buildings may be depots, units not.
func TestDepots(t *testing.T) {
	for i, u := range sample().Units {
		for _, depot := range []bool{false, true} {
			want := api.OK
			if depot && !u.Building {
				want = api.ErrArg
			}
			check(t, []change{{func(r *api.Rules) { r.Units[i].Depot = depot }, want}})
		}
	}
}

// P9.2, 6 and 7: each name of the rules, and some others, in each place where an element is named.
func TestReferences(t *testing.T) {
	units, buildings, techs := []string{"soldier", "worker"}, []string{"base", "forge"}, []string{"armor", "steel"}
	others := []string{"", "bow", "gun", "a", "zz", "Base", "base ", "bas", "basee", "2", "-", "\x00", strings.Repeat("a", 100)}
	types := slices.Concat(units, buildings)
	// expect returns the error of a name in a place where known names stand for elements that are there and good ones for those of the right sort.
	expect := func(name string, known, good []string) api.Errno {
		switch {
		case !slices.Contains(known, name):
			return api.ErrNotFound
		case !slices.Contains(good, name):
			return api.ErrType
		}
		return api.OK
	}
	for _, n := range slices.Concat(types, techs, others) {
		inNeeds := expect(n, slices.Concat(types, techs), slices.Concat(buildings, techs))
		inResearches := expect(n, techs, techs)
		inUnit := expect(n, types, types)
		weapon := expect(n, []string{"", "bow", "gun"}, []string{"", "bow", "gun"})
		for i, u := range sample().Units {
			inTrains, researches := expect(n, types, buildings), inResearches
			if u.Building {
				inTrains = expect(n, types, units)
			} else if researches == api.OK {
				researches = api.ErrType
			}
			check(t, []change{
				{func(r *api.Rules) { r.Units[i].Trains = []string{n} }, inTrains},
				{func(r *api.Rules) { r.Units[i].Researches = []string{n} }, researches},
				{func(r *api.Rules) { r.Units[i].Weapon = n }, weapon},
			})
		}
		check(t, []change{
			// Nothing needs a unit, so that there is no cycle.
			{func(r *api.Rules) { r.Units[2].Needs = []string{n} }, inNeeds},
			{func(r *api.Rules) { r.Units[3].Needs = []string{n} }, inNeeds},
			{func(r *api.Rules) { r.Techs[0].Unit = n }, inUnit},
			{func(r *api.Rules) { r.Techs[1].Unit = n }, inUnit},
			{func(r *api.Rules) {
				r.Units[0].Needs, r.Units[1].Needs, r.Techs[0].Needs = nil, nil, nil
				r.Techs[1].Needs = []string{n}
			}, loop(n, "steel", inNeeds)},
			{func(r *api.Rules) { r.Units[0].Needs, r.Units[1].Needs, r.Techs[0].Needs = nil, nil, []string{n} }, loop(n, "armor", inNeeds)},
			{func(r *api.Rules) { r.Units[0].Needs, r.Units[1].Needs, r.Techs[0].Needs = []string{n}, nil, nil }, loop(n, "base", inNeeds)},
		})
	}
	check(t, []change{
		// A name that is wrong behind one that is not.
		{func(r *api.Rules) { r.Units[0].Trains = []string{"worker", "zz"} }, api.ErrNotFound},
		{func(r *api.Rules) { r.Units[0].Trains = []string{"forge", "worker"} }, api.ErrType},
		{func(r *api.Rules) { r.Units[0].Trains = []string{"soldier", "steel"} }, api.ErrNotFound},
		{func(r *api.Rules) { r.Units[3].Trains = []string{"base", "forge", "worker"} }, api.ErrType},
		{func(r *api.Rules) { r.Units[1].Researches = []string{"armor", "base"} }, api.ErrNotFound},
		{func(r *api.Rules) { r.Units[2].Needs = []string{"armor", "base", "worker"} }, api.ErrType},
		{func(r *api.Rules) { r.Techs[0].Needs = []string{"steel", "worker"} }, api.ErrType},
		{func(r *api.Rules) { r.Techs[0].Needs = []string{"forge", "gun"} }, api.ErrNotFound},
		// What a name is, not where it stands, counts.
		{func(r *api.Rules) { r.Units[0].Trains = nil; r.Units[3].Trains = nil; r.Units[1].Trains = nil }, api.OK},
		{func(r *api.Rules) { r.Units[3].Researches = []string{} }, api.OK},
	})
}

// loop returns the error of an element with a name that needs n: need, unless it needs itself.
func loop(n, name string, need api.Errno) api.Errno {
	if n == name && need == api.OK {
		return api.ErrConflict
	}
	return need
}

// P9.2, 8: cycles of all lengths, of buildings, of technologies and of both, also behind elements that are not in the cycle.
func TestCycles(t *testing.T) {
	for n := 1; n <= 10; n++ {
		for kinds := range 1 << n {
			isTech := func(i int) bool { return kinds>>i&1 == 1 }
			var units []api.UnitType
			var techs []api.Tech
			for i := range n {
				next := name((i + 1) % n)
				if isTech(i) {
					techs = append(techs, tech(name(i), next))
				} else {
					units = append(units, building(name(i), next))
				}
			}
			r := of(append(units, building("before"), building("outside", name(n/2))), techs...)
			if e := rules.Validate(r); e != api.ErrConflict {
				t.Fatalf("a cycle of %d elements, technologies %b: %d", n, kinds, e)
			}
			// Without one of the needs there is no cycle.
			for i := range r.Units {
				if r.Units[i].Name == name(n-1) {
					r.Units[i].Needs = []string{"before"}
				}
			}
			for i := range r.Techs {
				if r.Techs[i].Name == name(n-1) {
					r.Techs[i].Needs = nil
				}
			}
			if e := rules.Validate(r); e != api.OK {
				t.Fatalf("a chain of %d elements, technologies %b: %d", n, kinds, e)
			}
		}
	}
	check(t, []change{
		{func(r *api.Rules) { r.Units[0].Needs = []string{"base"} }, api.ErrConflict},
		{func(r *api.Rules) { r.Units[0].Needs = []string{"armor"} }, api.ErrConflict},
		{func(r *api.Rules) { r.Units[0].Needs = []string{"steel"} }, api.OK},
		{func(r *api.Rules) { r.Techs[1].Needs = []string{"armor"} }, api.ErrConflict},
		{func(r *api.Rules) { r.Techs[1].Needs = []string{"base"} }, api.OK},
		// Only needs count: that armor, which soldier needs, is for soldiers, or that base trains what builds it, is no cycle.
		{func(r *api.Rules) { r.Units[3].Needs = []string{"base"} }, api.OK},
	})
}

// errorsInOrder are the sorts of errors, in the chapter's order, each as changes of parts of the sample that the others leave alone.
func errorsInOrder() []change {
	return []change{
		{func(r *api.Rules) { r.Units[2].Trains = []string{"a", "b", "c", "d", "e"} }, api.ErrLimit},
		{func(r *api.Rules) { r.Weapons[1].Name = "Gun" }, api.ErrName},
		{func(r *api.Rules) { r.Units[3].Trains = []string{"forge", "base"} }, api.ErrOrder},
		{func(r *api.Rules) { r.Techs[1].Name = "worker" }, api.ErrDuplicate},
		{func(r *api.Rules) { r.Units[0].Hp = 0 }, api.ErrArg},
		{func(r *api.Rules) { r.Units[1].Weapon = "axe" }, api.ErrNotFound},
		{func(r *api.Rules) { r.Units[0].Trains = []string{"forge"} }, api.ErrType},
		{func(r *api.Rules) { r.Units[0].Needs = []string{"forge"} }, api.ErrConflict},
	}
}

// P9.2: the first error in the chapter's order counts, whichever others there are.
func TestOrderOfErrors(t *testing.T) {
	list := errorsInOrder()
	for set := range 1 << len(list) {
		r, want := sample(), api.OK
		for i := len(list) - 1; i >= 0; i-- {
			if set>>i&1 == 1 {
				list[i].make(&r)
				want = list[i].want
			}
		}
		if e := rules.Validate(r); e != want {
			t.Errorf("set %b: %d, want %d", set, e, want)
		}
	}
	check(t, []change{
		// Each error is examined for the whole rules: a later one in an earlier element does not count.
		{func(r *api.Rules) { r.Units[0].Name = "Base"; r.Techs = make([]api.Tech, 13) }, api.ErrLimit},
		{func(r *api.Rules) { r.Units[0].Hp, r.Units[0].Name = 0, "worker"; r.Techs[1].Name = "" }, api.ErrName},
		{func(r *api.Rules) { r.Units[0].Depot, r.Units[0].Weapon = false, "x"; r.Techs[1].Stat = 0 }, api.ErrArg},
		{func(r *api.Rules) { r.Units[0].Trains = []string{"base"}; r.Techs[1].Unit = "" }, api.ErrNotFound},
		{func(r *api.Rules) { r.Units[0].Needs = []string{"base"}; r.Techs[1].Needs = []string{"worker"} }, api.ErrType},
		{func(r *api.Rules) { r.Units[0].Needs = []string{"base"}; r.Units[3].Researches = []string{"steel"} }, api.ErrType},
		// A unit that needs itself is no building.
		{func(r *api.Rules) { r.Units[3].Needs = []string{"worker"} }, api.ErrType},
		// Names in lists that are no names are not found.
		{func(r *api.Rules) { r.Units[0].Needs = []string{"X"} }, api.ErrNotFound},
		{func(r *api.Rules) { r.Units[0].Needs = []string{"X", "X"} }, api.ErrOrder},
		{func(r *api.Rules) { r.Units[3].Researches = []string{"x"} }, api.ErrNotFound},
	})
}

// model says by the words of the chapter what is wrong with rules whose numbers are good.
func model(r api.Rules) api.Errno {
	types, techs, weapons := map[string]int{}, map[string]int{}, map[string]int{}
	isBuilding, needs := map[string]bool{}, map[string][]string{}
	var ordered [][]string
	long, bad := len(r.Units) > 16 || len(r.Weapons) > 8 || len(r.Techs) > 12, false
	list := func(l []string) {
		ordered, long = append(ordered, l), long || len(l) > 4
	}
	var a, b, c []string
	for _, u := range r.Units {
		list(u.Needs)
		list(u.Trains)
		list(u.Researches)
		a, needs[u.Name], isBuilding[u.Name], bad = append(a, u.Name), u.Needs, u.Building, bad || !isName(u.Name)
		types[u.Name]++
	}
	for _, w := range r.Weapons {
		b, bad = append(b, w.Name), bad || !isName(w.Name)
		weapons[w.Name]++
	}
	unordered, shared, missing, wrong := false, false, false, false
	for _, x := range r.Techs {
		list(x.Needs)
		c, needs[x.Name], bad = append(c, x.Name), x.Needs, bad || !isName(x.Name)
		techs[x.Name]++
		shared = shared || types[x.Name] > 0
		missing = missing || types[x.Unit] == 0
	}
	for _, l := range append(ordered, a, b, c) {
		unordered = unordered || !slices.IsSorted(l) || len(slices.Compact(slices.Clone(l))) < len(l)
	}
	for _, l := range needs {
		for _, n := range l {
			missing = missing || types[n]+techs[n] == 0
			wrong = wrong || types[n] > 0 && !isBuilding[n]
		}
	}
	for _, u := range r.Units {
		missing = missing || u.Weapon != "" && weapons[u.Weapon] == 0
		wrong = wrong || !u.Building && len(u.Researches) > 0
		for _, n := range u.Trains {
			missing, wrong = missing || types[n] == 0, wrong || types[n] > 0 && isBuilding[n] == u.Building
		}
		for _, n := range u.Researches {
			missing = missing || techs[n] == 0
		}
	}
	for i, found := range []bool{long, bad, unordered, shared, missing, wrong, cyclic(needs)} {
		if found {
			return []api.Errno{api.ErrLimit, api.ErrName, api.ErrOrder, api.ErrDuplicate, api.ErrNotFound, api.ErrType, api.ErrConflict}[i]
		}
	}
	return api.OK
}

// cyclic tells whether an element needs itself, directly or through others.
func cyclic(needs map[string][]string) bool {
	for first := range needs {
		reached := map[string]bool{}
		for queue := slices.Clone(needs[first]); len(queue) > 0; queue = queue[1:] {
			if n := queue[0]; !reached[n] {
				reached[n] = true
				queue = append(queue, needs[n]...)
			}
		}
		if reached[first] {
			return true
		}
	}
	return false
}

// pick returns up to most of the names, in their order.
func pick(random *rand.Rand, names []string, most int) []string {
	var list []string
	for range random.Intn(most + 1) {
		if len(names) > 0 {
			list = append(list, names[random.Intn(len(names))])
		}
	}
	slices.Sort(list)
	return slices.Compact(list)
}

// randomRules returns rules that are often valid: most names are those of elements of the right sort.
func randomRules(random *rand.Rand) api.Rules {
	all := []string{"a", "b", "c", "d", "e", "f", "g", "h", "i", "k"}
	random.Shuffle(len(all), func(i, k int) { all[i], all[k] = all[k], all[i] })
	at, behind := random.Intn(4), 4+random.Intn(3)
	buildings, units, techs := all[:at], all[at:behind], all[behind:]
	weapons := pick(random, all, 3)
	var r api.Rules
	for _, n := range buildings {
		u := building(n, pick(random, slices.Concat(buildings, techs), 1)...)
		u.Trains, u.Researches = pick(random, units, 2), pick(random, techs, 2)
		r.Units = append(r.Units, u)
	}
	for _, n := range units {
		u := worker(n)
		u.Needs, u.Trains = pick(random, slices.Concat(buildings, techs), 4), pick(random, buildings, 2)
		u.Weapon = append(weapons, "")[random.Intn(len(weapons)+1)]
		r.Units = append(r.Units, u)
	}
	for _, n := range weapons {
		r.Weapons = append(r.Weapons, api.Weapon{Name: n})
	}
	for _, n := range techs {
		x := tech(n, pick(random, slices.Concat(buildings, techs), 1)...)
		x.Unit = units[random.Intn(len(units))]
		r.Techs = append(r.Techs, x)
	}
	slices.SortFunc(r.Units, func(a, b api.UnitType) int { return strings.Compare(a.Name, b.Name) })
	slices.SortFunc(r.Techs, func(a, b api.Tech) int { return strings.Compare(a.Name, b.Name) })
	if random.Intn(3) == 0 {
		spoil(random, &r)
	}
	return r
}

// spoil changes a name in rules that have a unit type and a technology.
func spoil(random *rand.Rand, r *api.Rules) {
	word := []string{"a", "b", "c", "d", "e", "f", "g", "h", "i", "k", "x", "", "A"}[random.Intn(13)]
	u, x := &r.Units[random.Intn(len(r.Units))], &r.Techs[random.Intn(len(r.Techs))]
	switch random.Intn(8) {
	case 0:
		u.Needs = append(u.Needs, word)
	case 1:
		u.Trains = append(u.Trains, word)
	case 2:
		u.Researches = append(u.Researches, word)
	case 3:
		u.Weapon = word
	case 4:
		u.Name = word
	case 5:
		x.Needs = append(x.Needs, word)
	case 6:
		x.Unit = word
	case 7:
		x.Name = word
	}
}

// P9.2, P9.4 and P9.6
func TestRandomRules(t *testing.T) {
	random := rand.New(rand.NewSource(9))
	count := map[api.Errno]int{}
	for range 30000 {
		r := randomRules(random)
		want := model(r)
		if e := rules.Validate(r); e != want {
			t.Fatalf("Validate(%+v) = %d, want %d", r, e, want)
		}
		count[want]++
		names, e := rules.Order(r)
		if e != want || e != api.OK && len(names) != 0 {
			t.Fatalf("Order(%+v) = %v, %d, want %d", r, names, e, want)
		}
		if e == api.OK {
			checkOrder(t, r, names)
		}
	}
	if len(count) != 8 || count[api.OK] < 2000 {
		t.Errorf("results: %v", count)
	}
}

// checkOrder checks that each name is the least of those whose needs are there, and that all names are there once.
func checkOrder(t *testing.T, r api.Rules, names []string) {
	t.Helper()
	needs := map[string][]string{}
	for _, u := range r.Units {
		needs[u.Name] = u.Needs
	}
	for _, x := range r.Techs {
		needs[x.Name] = x.Needs
	}
	if len(names) != len(needs) || len(needs) != len(r.Units)+len(r.Techs) {
		t.Fatalf("Order(%+v) = %v", r, names)
	}
	done := map[string]bool{}
	for _, n := range names {
		least := ""
		for candidate, l := range needs {
			if !done[candidate] && !slices.ContainsFunc(l, func(s string) bool { return !done[s] }) && (least == "" || candidate < least) {
				least = candidate
			}
		}
		if n != least || done[n] {
			t.Fatalf("Order(%+v) = %v: %q instead of %q", r, names, n, least)
		}
		done[n] = true
	}
}

// P9.4: the example of the chapter, and others.
func TestOrder(t *testing.T) {
	cases := []struct {
		r    api.Rules
		want []string
	}{
		{api.Rules{}, nil}, {api.Rules{Weapons: []api.Weapon{{Name: "a"}}}, nil}, {of(nil), []string{"unit"}}, {of(nil, tech("a"), tech("z")), []string{"a", "unit", "z"}},
		{of([]api.UnitType{building("base"), building("forge", "base")}, tech("armor", "forge")), []string{"base", "forge", "armor", "unit"}},
		{of([]api.UnitType{building("base"), building("forge", "zinc")}, tech("armor", "forge"), tech("zinc")), []string{"base", "unit", "zinc", "forge", "armor"}},
		{of([]api.UnitType{building("c", "d"), building("b", "c"), building("d")}, tech("a", "b")), []string{"d", "c", "b", "a", "unit"}},
		{of([]api.UnitType{building("a", "b", "d"), building("b"), building("c", "a"), building("d")}), []string{"b", "d", "a", "c", "unit"}},
		// Byte by byte: digits, then "_", then letters.
		{of([]api.UnitType{building("aa"), building("a_"), building("a0"), building("a")}), []string{"a", "a0", "a_", "aa", "unit"}},
		{sample(), []string{"base", "forge", "steel", "armor", "soldier", "worker"}},
	}
	for i, c := range cases {
		if names, e := rules.Order(c.r); e != api.OK || !slices.Equal(names, c.want) {
			t.Errorf("case %d: %v, %d, want %v", i, names, e, c.want)
		}
	}
}

// P9.4 and P9.6: the largest rules, as a chain that runs against the order of the names.
func TestOrderOfLargeRules(t *testing.T) {
	var r api.Rules
	var want []string
	for i := range 15 {
		r.Units = append(r.Units, building(name(i), name(i+1)))
	}
	r.Units = append(r.Units, worker("unit"))
	for i := 15; i < 27; i++ {
		r.Techs = append(r.Techs, tech(name(i), name(i+1)))
	}
	r.Techs[11].Needs = nil
	for i := range 27 {
		want = append(want, name(26-i))
	}
	want = append(want, "unit")
	if names, e := rules.Order(r); e != api.OK || !slices.Equal(names, want) {
		t.Errorf("%v, %d", names, e)
	}
	r.Techs[11].Needs = []string{name(0)}
	if names, e := rules.Order(r); e != api.ErrConflict || len(names) != 0 {
		t.Errorf("%v, %d", names, e)
	}
}
