package mods_test

import (
	"fmt"
	"math"
	"math/rand"
	"reflect"
	"slices"
	"strings"
	"testing"

	"skirmish/api"
	"skirmish/mods"
	"skirmish/rules"
	"skirmish/ruletext"
)

// duel returns the rules of the chapter's examples: two weapons, and what uses one of them.
func duel() api.Rules {
	return api.Rules{
		Units: []api.UnitType{
			{Name: "archer", Class: api.CFoot, Radius: 40, Speed: 64, Hp: 20, Weapon: "bow", Needs: []string{"base", "eyes"}},
			{Name: "base", Building: true, Depot: true, W: 2, H: 2, Sight: 4, Hp: 90, Trains: []string{"archer"}, Researches: []string{"eyes"}},
		},
		Weapons: []api.Weapon{{Name: "axe", Damage: 4}, {Name: "bow", Range: 768, Damage: 6, Cool: 8, Speed: 64}},
		Techs:   []api.Tech{{Name: "eyes", Ore: 5, Unit: "archer", Stat: 4, Amount: 2}},
	}
}

// listOf returns the list of the elements of a kind, so that it can be changed.
func listOf(r *api.Rules, kind int) reflect.Value {
	return reflect.ValueOf(r).Elem().Field(kind - 1)
}

// nameAt returns the name of an element of a list.
func nameAt(list reflect.Value, i int) string {
	return list.Index(i).FieldByName("Name").String()
}

// indexOf returns the index of the first element of a list with a name, or -1.
func indexOf(list reflect.Value, name string) int {
	for i := range list.Len() {
		if nameAt(list, i) == name {
			return i
		}
	}
	return -1
}

// valueOf returns the value of a field by the words of the chapter.
func valueOf(r api.Rules, kind int, name, field string) string {
	if field != "" {
		s, _ := ruletext.Get(r, kind, name, field)
		return s
	}
	if indexOf(listOf(&r, kind), name) >= 0 {
		return "yes"
	}
	return ""
}

// add puts a blank element ahead of the first one with a greater name.
func add(list reflect.Value, name string) {
	n := reflect.MakeSlice(list.Type(), 0, 0)
	element := reflect.New(list.Type().Elem()).Elem()
	element.FieldByName("Name").SetString(name)
	at := 0
	for at < list.Len() && nameAt(list, at) <= name {
		at++
	}
	n = reflect.AppendSlice(n, list.Slice(0, at))
	n = reflect.Append(n, element)
	list.Set(reflect.AppendSlice(n, list.Slice(at, list.Len())))
}

// remove takes the first element with a name out of a list.
func remove(list reflect.Value, name string) {
	at := indexOf(list, name)
	n := reflect.MakeSlice(list.Type(), 0, 0)
	n = reflect.AppendSlice(n, list.Slice(0, at))
	list.Set(reflect.AppendSlice(n, list.Slice(at+1, list.Len())))
}

// isEdit tells by the words of the chapter whether x has the form of an edit.
func isEdit(x api.Edit) bool {
	if x.Kind != 1 && x.Kind != 2 && x.Kind != 3 || x.Old == x.New {
		return false
	}
	if x.Field != "" {
		return slices.Contains(ruletext.Fields(x.Kind), x.Field)
	}
	return x.Old == "" && x.New == "yes" || x.Old == "yes" && x.New == ""
}

// edited returns by the words of the chapter the rules after one edit.
func edited(r api.Rules, x api.Edit) (api.Rules, api.Errno) {
	if !isEdit(x) {
		return api.Rules{}, 1
	}
	list := listOf(&r, x.Kind)
	isThere := indexOf(list, x.Name) >= 0
	adds := x.Field == "" && x.New == "yes"
	switch {
	case adds && isThere:
		return api.Rules{}, 14
	case !adds && !isThere:
		return api.Rules{}, 8
	case valueOf(r, x.Kind, x.Name, x.Field) != x.Old:
		return api.Rules{}, 14
	case adds:
		add(list, x.Name)
		return r, 0
	case x.Field == "":
		remove(list, x.Name)
		return r, 0
	}
	return ruletext.Set(r, x.Kind, x.Name, x.Field, x.New)
}

// isAhead tells by the words of the chapter whether the place of x is ahead of that of y.
func isAhead(x, y api.Edit) bool {
	if x.Kind != y.Kind {
		return x.Kind < y.Kind
	}
	if x.Name != y.Name {
		return x.Name < y.Name
	}
	return x.Field < y.Field
}

// applied returns by the words of the chapter what Apply should return.
func applied(r api.Rules, l []api.Edit) (api.Rules, api.Errno) {
	if rules.Validate(r) != 0 {
		return api.Rules{}, 1
	}
	for i := 1; i < len(l); i++ {
		if !isAhead(l[i-1], l[i]) {
			return api.Rules{}, 13
		}
	}
	for _, x := range l {
		var e api.Errno
		if r, e = edited(r, x); e != 0 {
			return api.Rules{}, e
		}
	}
	if e := rules.Validate(r); e != 0 {
		return api.Rules{}, e
	}
	return r, 0
}

// allNames returns the names of the elements of a kind in a or b, each once and ascending.
func allNames(a, b api.Rules, kind int) []string {
	var names []string
	for _, r := range []api.Rules{a, b} {
		list := listOf(&r, kind)
		for i := range list.Len() {
			names = append(names, nameAt(list, i))
		}
	}
	slices.Sort(names)
	return slices.Compact(names)
}

// difference returns by the words of the chapter the edits that make b of a.
func difference(a, b api.Rules) []api.Edit {
	var l []api.Edit
	for kind := 1; kind <= 3; kind++ {
		fields := append(ruletext.Fields(kind), "")
		slices.Sort(fields)
		for _, name := range allNames(a, b, kind) {
			from := a
			if valueOf(a, kind, name, "") == "" {
				var zero api.Rules
				add(listOf(&zero, kind), name)
				from = zero
			}
			for _, field := range fields {
				old, value := valueOf(from, kind, name, field), valueOf(b, kind, name, field)
				if field == "" {
					old = valueOf(a, kind, name, "")
				}
				// An element that is not in b has no fields there.
				if old != value && (field == "" || valueOf(b, kind, name, "") == "yes") {
					l = append(l, api.Edit{Kind: kind, Name: name, Field: field, Old: old, New: value})
				}
			}
		}
	}
	return l
}

// pick returns some of the names, ascending and at most four.
func pick(rnd *rand.Rand, names []string) []string {
	var list []string
	for _, name := range names {
		if rnd.Intn(3) == 0 && len(list) < api.MaxNeeds {
			list = append(list, name)
		}
	}
	slices.Sort(list)
	return list
}

// some returns two of three of the names.
func some(rnd *rand.Rand, names ...string) []string {
	return slices.DeleteFunc(names, func(string) bool { return rnd.Intn(3) == 0 })
}

// someRules returns valid rules, a few names and values of which occur again and again.
func someRules(t *testing.T, rnd *rand.Rand) api.Rules {
	var r api.Rules
	few := func() int { return rnd.Intn(3) }
	var buildings, units []string
	for _, name := range some(rnd, "a", "a0", "b", "b_", "b0", "man", "zoo") {
		if rnd.Intn(2) == 0 {
			buildings = append(buildings, name)
		} else {
			units = append(units, name)
		}
	}
	weapons, techs := some(rnd, "a", "axe", "bow", "zip"), some(rnd, "a_", "armor", "steel")
	if len(buildings) == 0 {
		techs = nil
	}
	// Each element needs only those ahead of it in this list, so that there is no cycle.
	var ready []string
	for _, name := range buildings {
		r.Units = append(r.Units, api.UnitType{Name: name, Building: true, Depot: few() == 0, W: 1 + few(), H: 1 + few(), Sight: few(), Hp: 1 + few(), Armor: few(), Time: few(), Needs: pick(rnd, ready), Trains: pick(rnd, units), Researches: pick(rnd, techs)})
		ready = append(ready, name)
	}
	for _, name := range techs {
		r.Techs = append(r.Techs, api.Tech{Name: name, Needs: pick(rnd, ready), Ore: few(), Wood: few(), Time: few(), Unit: buildings[0], Stat: 1 + few(), Amount: few()})
		ready = append(ready, name)
	}
	for _, name := range units {
		r.Units = append(r.Units, api.UnitType{Name: name, Class: 1 + few(), Radius: 16 + few(), Speed: few(), Hp: 1 + few(), Load: few(), Ore: few(), Wood: few(), Weapon: append(weapons, "")[rnd.Intn(len(weapons)+1)], Needs: pick(rnd, ready), Trains: pick(rnd, buildings)})
	}
	for _, name := range weapons {
		r.Weapons = append(r.Weapons, api.Weapon{Name: name, Range: few(), Damage: few(), Cool: few(), Speed: few(), Splash: few()})
	}
	slices.SortFunc(r.Units, func(x, y api.UnitType) int { return strings.Compare(x.Name, y.Name) })
	if e := rules.Validate(r); e != api.OK {
		t.Fatalf("error %d of %v", e, r)
	}
	return r
}

// full returns valid rules with as many elements as there may be.
func full() api.Rules {
	var r api.Rules
	for i := range api.MaxTypes {
		r.Units = append(r.Units, api.UnitType{Name: fmt.Sprintf("unit%02d", i), Class: api.CFly, Radius: 128, Hp: i + 1})
	}
	for i := range api.MaxWeapons {
		r.Weapons = append(r.Weapons, api.Weapon{Name: fmt.Sprintf("weapon%d", i), Damage: i})
	}
	for i := range api.MaxTechs {
		r.Techs = append(r.Techs, api.Tech{Name: fmt.Sprintf("tech%02d", i), Unit: "unit00", Stat: 6, Amount: i})
	}
	return r
}

// checkApply compares Apply with the words of the chapter and returns its error.
func checkApply(t *testing.T, r api.Rules, l []api.Edit) api.Errno {
	t.Helper()
	before := fmt.Sprintf("%#v %#v", r, l)
	x, e := mods.Apply(r, l)
	want, f := applied(r, l)
	if e != f || !rules.Same(x, want) {
		t.Fatalf("Apply(%v, %v) = %v, error %d, want %v, error %d", r, l, x, e, want, f)
	}
	if fmt.Sprintf("%#v %#v", r, l) != before {
		t.Fatalf("Apply(%v, %v) changes its arguments", r, l)
	}
	return e
}

// P11.1: what single edits do, and their errors.
func TestApplySingle(t *testing.T) {
	for _, c := range []struct {
		x    api.Edit
		want api.Errno
	}{
		{api.Edit{Kind: 2, Name: "bow", Field: "damage", Old: "6", New: "7"}, api.OK},
		{api.Edit{Kind: 2, Name: "bow", Field: "damage", Old: "7", New: "6"}, api.ErrConflict},
		{api.Edit{Kind: 2, Name: "bow", Field: "damage", Old: "06", New: "7"}, api.ErrConflict},
		{api.Edit{Kind: 2, Name: "bow", Field: "damage", Old: "", New: "7"}, api.ErrConflict},
		{api.Edit{Kind: 2, Name: "bow", Field: "damage", Old: "7", New: "07"}, api.ErrConflict},
		{api.Edit{Kind: 2, Name: "bow", Field: "damage", Old: "6", New: "07"}, api.ErrSyntax},
		{api.Edit{Kind: 2, Name: "bow", Field: "damage", Old: "6", New: ""}, api.ErrSyntax},
		{api.Edit{Kind: 2, Name: "bow", Field: "damage", Old: "6", New: "6"}, api.ErrArg},
		{api.Edit{Kind: 2, Name: "bow", Field: "damage", Old: "6", New: "-1"}, api.ErrArg},
		{api.Edit{Kind: 2, Name: "bow", Field: "damage", Old: "6", New: "100000"}, api.OK},
		{api.Edit{Kind: 2, Name: "bow", Field: "damage", Old: "6", New: "100001"}, api.ErrArg},
		{api.Edit{Kind: 2, Name: "club", Field: "damage", Old: "7", New: "07"}, api.ErrNotFound},
		{api.Edit{Kind: 2, Name: "club", Field: "hp", Old: "6", New: "7"}, api.ErrArg},
		{api.Edit{Kind: 2, Name: "club", Field: "damage", Old: "6", New: "6"}, api.ErrArg},
		{api.Edit{Kind: 2, Name: "bow", Field: "name", Old: "bow", New: "gun"}, api.ErrArg},
		{api.Edit{Kind: 1, Name: "bow", Field: "hp", Old: "6", New: "7"}, api.ErrNotFound},
		{api.Edit{Kind: 1, Name: "archer", Field: "weapon", Old: "bow", New: "-"}, api.OK},
		{api.Edit{Kind: 1, Name: "archer", Field: "weapon", Old: "bow", New: "axe"}, api.OK},
		{api.Edit{Kind: 1, Name: "archer", Field: "weapon", Old: "bow", New: "club"}, api.ErrNotFound},
		{api.Edit{Kind: 1, Name: "base", Field: "weapon", Old: "", New: "bow"}, api.ErrConflict},
		{api.Edit{Kind: 1, Name: "base", Field: "weapon", Old: "-", New: "bow"}, api.OK},
		{api.Edit{Kind: 1, Name: "archer", Field: "needs", Old: "base,eyes", New: "-"}, api.OK},
		{api.Edit{Kind: 1, Name: "archer", Field: "needs", Old: "base,eyes", New: "eyes,base"}, api.ErrOrder},
		{api.Edit{Kind: 1, Name: "archer", Field: "needs", Old: "eyes,base", New: "base"}, api.ErrConflict},
		{api.Edit{Kind: 1, Name: "archer", Field: "needs", Old: "base,eyes", New: "archer"}, api.ErrType},
		{api.Edit{Kind: 1, Name: "archer", Field: "needs", Old: "base,eyes", New: "a,b,c,d,e"}, api.ErrLimit},
		{api.Edit{Kind: 3, Name: "eyes", Field: "needs", Old: "-", New: "eyes"}, api.ErrConflict},
		{api.Edit{Kind: 1, Name: "base", Field: "depot", Old: "yes", New: "no"}, api.OK},
		{api.Edit{Kind: 1, Name: "base", Field: "depot", Old: "yes", New: ""}, api.ErrSyntax},
		{api.Edit{Kind: 1, Name: "base", Field: "building", Old: "yes", New: "no"}, api.ErrArg},
		{api.Edit{Kind: 2, Name: "club", New: "yes"}, api.OK},
		{api.Edit{Kind: 2, Name: "aaa", New: "yes"}, api.OK},
		{api.Edit{Kind: 2, Name: "zzz", New: "yes"}, api.OK},
		{api.Edit{Kind: 2, Name: "archer", New: "yes"}, api.OK},
		{api.Edit{Kind: 2, Name: "bow", New: "yes"}, api.ErrConflict},
		{api.Edit{Kind: 2, Name: "", New: "yes"}, api.ErrName},
		{api.Edit{Kind: 2, Name: "Club", New: "yes"}, api.ErrName},
		{api.Edit{Kind: 1, Name: "man", New: "yes"}, api.ErrArg},
		{api.Edit{Kind: 1, Name: "eyes", New: "yes"}, api.ErrDuplicate},
		{api.Edit{Kind: 3, Name: "base", New: "yes"}, api.ErrDuplicate},
		{api.Edit{Kind: 2, Name: "axe", Old: "yes"}, api.OK},
		{api.Edit{Kind: 2, Name: "bow", Old: "yes"}, api.ErrNotFound},
		{api.Edit{Kind: 2, Name: "club", Old: "yes"}, api.ErrNotFound},
		{api.Edit{Kind: 2, Name: "archer", Old: "yes"}, api.ErrNotFound},
		{api.Edit{Kind: 2, Name: "axe"}, api.ErrArg},
		{api.Edit{Kind: 2, Name: "axe", Old: "yes", New: "yes"}, api.ErrArg},
		{api.Edit{Kind: 2, Name: "axe", Old: "no"}, api.ErrArg},
		{api.Edit{Kind: 2, Name: "axe", Old: "yes", New: "no"}, api.ErrArg},
		{api.Edit{Kind: 2, Name: "club", New: "no"}, api.ErrArg},
		{api.Edit{Kind: 2, Name: "club", Old: "no", New: "yes"}, api.ErrArg},
		{api.Edit{Kind: 2, Name: "club", New: "Yes"}, api.ErrArg},
		{api.Edit{Kind: 0, Name: "club", New: "yes"}, api.ErrArg},
		{api.Edit{Kind: 4, Name: "club", New: "yes"}, api.ErrArg},
		{api.Edit{Kind: 4, Name: "bow", Field: "damage", Old: "6", New: "7"}, api.ErrArg},
		{api.Edit{Kind: math.MinInt, Name: "bow", Old: "yes"}, api.ErrArg},
		{api.Edit{Kind: math.MaxInt, Name: "bow", Old: "yes"}, api.ErrArg},
		{api.Edit{}, api.ErrArg},
	} {
		if e := checkApply(t, duel(), []api.Edit{c.x}); e != c.want {
			t.Errorf("Apply of %v: error %d, want %d", c.x, e, c.want)
		}
	}
}

// P11.1: lists of edits, in order, and which of their errors comes first.
func TestApplyLists(t *testing.T) {
	damage := api.Edit{Kind: 2, Name: "bow", Field: "damage", Old: "6", New: "7"}
	reach := api.Edit{Kind: 2, Name: "bow", Field: "range", Old: "768", New: "800"}
	gun, noGun := api.Edit{Kind: 2, Name: "gun", New: "yes"}, api.Edit{Kind: 2, Name: "gun", Old: "yes"}
	shot := api.Edit{Kind: 2, Name: "gun", Field: "damage", Old: "0", New: "3"}
	noAxe, axe := api.Edit{Kind: 2, Name: "axe", Old: "yes"}, api.Edit{Kind: 2, Name: "axe", Field: "damage", Old: "4", New: "5"}
	formless := api.Edit{Kind: 4, Name: "a"}
	unreadable := api.Edit{Kind: 2, Name: "bow", Field: "speed", Old: "64", New: "x"}
	for i, c := range []struct {
		l    []api.Edit
		want api.Errno
	}{
		{nil, api.OK}, {[]api.Edit{}, api.OK}, {[]api.Edit{damage, reach}, api.OK}, {[]api.Edit{gun, shot}, api.OK}, {[]api.Edit{noAxe, damage, reach, gun, shot}, api.OK},
		{[]api.Edit{reach, damage}, api.ErrOrder}, {[]api.Edit{damage, damage}, api.ErrOrder}, {[]api.Edit{damage, {Kind: 2, Name: "bow", Field: "damage", Old: "7", New: "8"}}, api.ErrOrder},
		{[]api.Edit{shot, gun}, api.ErrOrder}, {[]api.Edit{gun, noGun}, api.ErrOrder}, {[]api.Edit{formless, formless}, api.ErrOrder}, {[]api.Edit{formless, reach, damage}, api.ErrOrder},
		{[]api.Edit{shot}, api.ErrNotFound}, {[]api.Edit{noAxe, axe}, api.ErrNotFound}, {[]api.Edit{noGun, shot}, api.ErrNotFound}, {[]api.Edit{noGun, formless}, api.ErrNotFound},
		{[]api.Edit{{Kind: -1}, noGun}, api.ErrArg}, {[]api.Edit{damage, reach, unreadable, noGun}, api.ErrSyntax}, {[]api.Edit{damage, {Kind: 2, Name: "bow", Field: "range", Old: "7", New: "8"}, unreadable}, api.ErrConflict},
		{[]api.Edit{{Kind: 1, Name: "archer", Field: "weapon", Old: "bow", New: "-"}, {Kind: 2, Name: "bow", Old: "yes"}}, api.OK},
		{[]api.Edit{{Kind: 1, Name: "archer", Field: "weapon", Old: "bow", New: "gun"}, {Kind: 2, Name: "bow", Old: "yes"}, gun}, api.OK},
		{[]api.Edit{{Kind: 2, Name: "bow", Old: "yes"}, {Kind: 3, Name: "eyes", Field: "ore", Old: "5", New: "-7"}}, api.ErrArg},
		{[]api.Edit{{Kind: 1, Name: "base", Field: "time", Old: "0", New: "-3"}, noGun}, api.ErrNotFound},
	} {
		if e := checkApply(t, duel(), c.l); e != c.want {
			t.Errorf("list %d: error %d, want %d", i, e, c.want)
		}
	}
}

// P11.1: the error of rules that are not valid comes first, that of a result with too many elements last.
func TestApplyInvalid(t *testing.T) {
	wrong := []api.Edit{{Kind: 2, Name: "b"}, {Kind: 2, Name: "a"}}
	for i, r := range []api.Rules{
		{Weapons: []api.Weapon{{}}}, {Weapons: []api.Weapon{{Name: "b"}, {Name: "a"}}}, {Weapons: []api.Weapon{{Name: "a"}, {Name: "a"}}},
		{Units: []api.UnitType{{Name: "a", Hp: 7}}}, {Techs: make([]api.Tech, 13)}, {Techs: []api.Tech{{Name: "a", Unit: "b", Stat: 1}}},
	} {
		for _, l := range [][]api.Edit{nil, wrong, {{Kind: 2, Name: "a", Old: "yes"}}} {
			if e := checkApply(t, r, l); e != api.ErrArg {
				t.Errorf("rules %d, %v: error %d", i, l, e)
			}
		}
	}
	for kind, name := range []string{1: "unit000", 2: "weapon00", 3: "tech000"} {
		if kind == 0 {
			continue
		}
		added := api.Edit{Kind: kind, Name: name, New: "yes"}
		if e := checkApply(t, full(), []api.Edit{added}); e != api.ErrLimit {
			t.Errorf("Apply of %v to full rules: error %d", added, e)
		}
		removed := api.Edit{Kind: kind, Name: name[:len(name)-1] + "9", Old: "yes"}
		if e := checkApply(t, full(), []api.Edit{added, removed}); kind == 2 && e != api.ErrNotFound {
			t.Errorf("Apply of %v and %v to full rules: error %d", added, removed, e)
		}
	}
	if e := checkApply(t, full(), []api.Edit{{Kind: 2, Name: "weapon00", New: "yes"}, {Kind: 2, Name: "weapon1", Old: "yes"}}); e != api.OK {
		t.Errorf("Apply of an exchange to full rules: error %d", e)
	}
}

// P11.1: long lists, which fail at their end.
func TestApplyLong(t *testing.T) {
	var l []api.Edit
	for i := range 30000 {
		name := fmt.Sprintf("w%05d", i)
		l = append(l, api.Edit{Kind: 2, Name: name, New: "yes"}, api.Edit{Kind: 2, Name: name, Field: "damage", Old: "0", New: "3"})
	}
	if _, e := mods.Apply(duel(), l); e != api.ErrLimit {
		t.Errorf("error %d", e)
	}
	if _, e := mods.Apply(duel(), append(l, api.Edit{Kind: 2, Name: "w00000", New: "yes"})); e != api.ErrOrder {
		t.Errorf("error %d", e)
	}
	if _, e := mods.Apply(duel(), append(l, api.Edit{Kind: 2, Name: "x", Old: "yes"})); e != api.ErrNotFound {
		t.Errorf("error %d", e)
	}
}

// spoiled returns l with a few changes, which may leave it in order or not.
func spoiled(rnd *rand.Rand, l []api.Edit) []api.Edit {
	l = slices.Clone(l)
	for range 1 + rnd.Intn(2) {
		if len(l) == 0 {
			return l
		}
		i := rnd.Intn(len(l))
		texts := []string{"", "yes", "no", "-", "0", "1", "2", "17", "07", "-1", "a,b", "base", "a", "b", "zoo", "bow", "axe", "steel", "Bow", "100001", "a_,a", "a0,base", "a b"}
		text := texts[rnd.Intn(len(texts))]
		switch rnd.Intn(9) {
		case 0:
			l = slices.Delete(l, i, i+1)
		case 1:
			l = slices.Insert(l, i, l[rnd.Intn(len(l))])
		case 2:
			l[i].Old = text
		case 3, 4:
			l[i].New = text
		case 5:
			l[i].Name = text
		case 6:
			l[i].Kind = rnd.Intn(6) - 1
		case 7:
			l[i].Field = append(ruletext.Fields(1+rnd.Intn(3)), "", "name", "Hp")[rnd.Intn(5)]
		case 8:
			l = append(l, api.Edit{Kind: 1 + rnd.Intn(3), Name: text, New: "yes"})
		}
	}
	if rnd.Intn(4) > 0 {
		slices.SortFunc(l, func(x, y api.Edit) int {
			if isAhead(x, y) {
				return -1
			}
			return 1
		})
	}
	return l
}

// P11.1: lists of all sorts.
func TestApply(t *testing.T) {
	rnd := rand.New(rand.NewSource(11))
	seen := map[api.Errno]int{}
	for range 900 {
		a := someRules(t, rnd)
		seen[checkApply(t, a, spoiled(rnd, difference(a, someRules(t, rnd))))]++
		seen[checkApply(t, a, spoiled(rnd, part(rnd, difference(a, someRules(t, rnd)))))]++
	}
	for _, e := range []api.Errno{api.OK, api.ErrArg, api.ErrSyntax, api.ErrName, api.ErrDuplicate, api.ErrNotFound, api.ErrOrder, api.ErrConflict, api.ErrType} {
		if seen[e] < 3 {
			t.Errorf("error %d occurs only %d times: %v", e, seen[e], seen)
		}
	}
}

// part returns a few edits of l, in order.
func part(rnd *rand.Rand, l []api.Edit) []api.Edit {
	return slices.DeleteFunc(slices.Clone(l), func(api.Edit) bool { return rnd.Intn(6) > 0 })
}

// checkDiff compares Diff with the words of the chapter and returns its edits.
func checkDiff(t *testing.T, a, b api.Rules) []api.Edit {
	t.Helper()
	before := fmt.Sprintf("%#v %#v", a, b)
	l, e := mods.Diff(a, b)
	if want := difference(a, b); e != api.OK || !slices.Equal(l, want) {
		t.Fatalf("Diff(%v, %v) = %v, error %d, want %v", a, b, l, e, want)
	}
	if fmt.Sprintf("%#v %#v", a, b) != before {
		t.Fatalf("Diff(%v, %v) changes its arguments", a, b)
	}
	return l
}

// P11.2: edits of each sort.
func TestDiffExamples(t *testing.T) {
	b := duel()
	b.Weapons = []api.Weapon{{Name: "bow", Range: 768, Damage: 7, Cool: 8, Speed: 64}, {Name: "gun", Cool: 2, Splash: 1}, {Name: "net"}}
	b.Units[1].Depot, b.Units[1].Trains, b.Units[1].Armor = false, nil, 3
	b.Units = append(b.Units, api.UnitType{Name: "wall", Building: true, W: 1, H: 1, Hp: 1, Needs: []string{"base"}})
	b.Techs[0].Unit = "wall"
	want := []api.Edit{
		{Kind: 1, Name: "base", Field: "armor", Old: "0", New: "3"}, {Kind: 1, Name: "base", Field: "depot", Old: "yes", New: "no"}, {Kind: 1, Name: "base", Field: "trains", Old: "archer", New: "-"},
		{Kind: 1, Name: "wall", New: "yes"}, {Kind: 1, Name: "wall", Field: "building", Old: "no", New: "yes"}, {Kind: 1, Name: "wall", Field: "h", Old: "0", New: "1"}, {Kind: 1, Name: "wall", Field: "hp", Old: "0", New: "1"},
		{Kind: 1, Name: "wall", Field: "needs", Old: "-", New: "base"}, {Kind: 1, Name: "wall", Field: "w", Old: "0", New: "1"},
		{Kind: 2, Name: "axe", Old: "yes"}, {Kind: 2, Name: "bow", Field: "damage", Old: "6", New: "7"},
		{Kind: 2, Name: "gun", New: "yes"}, {Kind: 2, Name: "gun", Field: "cool", Old: "0", New: "2"}, {Kind: 2, Name: "gun", Field: "splash", Old: "0", New: "1"}, {Kind: 2, Name: "net", New: "yes"},
		{Kind: 3, Name: "eyes", Field: "unit", Old: "archer", New: "wall"},
	}
	if l := checkDiff(t, duel(), b); !slices.Equal(l, want) {
		t.Errorf("Diff = %v, want %v", l, want)
	}
	for i, r := range []api.Rules{{Techs: []api.Tech{{}}}, {Weapons: []api.Weapon{{Name: "b"}, {Name: "a"}}}, {Units: make([]api.UnitType, 17)}} {
		for _, pair := range [][2]api.Rules{{r, b}, {b, r}, {r, r}, {r, {}}} {
			if l, e := mods.Diff(pair[0], pair[1]); e != api.ErrArg || len(l) != 0 {
				t.Errorf("rules %d: Diff = %v, error %d", i, l, e)
			}
		}
	}
}

// P11.2, P11.5: each field of each sort of element.
func TestDiffFields(t *testing.T) {
	rnd := rand.New(rand.NewSource(3))
	seen := map[string]bool{}
	for range 400 {
		a, b := someRules(t, rnd), someRules(t, rnd)
		for _, x := range checkDiff(t, a, b) {
			seen[fmt.Sprint(x.Kind, x.Field, indexOf(listOf(&a, x.Kind), x.Name) < 0)] = true
		}
	}
	for kind := 1; kind <= 3; kind++ {
		for _, field := range append(ruletext.Fields(kind), "") {
			if !seen[fmt.Sprint(kind, field, true)] || !seen[fmt.Sprint(kind, field, false)] {
				t.Errorf("no difference of the kind %d and field %q", kind, field)
			}
		}
	}
}

// P11.5
func TestDiffApply(t *testing.T) {
	rnd := rand.New(rand.NewSource(5))
	lists := []api.Rules{{}, duel(), full()}
	for range 20 {
		lists = append(lists, someRules(t, rnd))
	}
	for _, a := range lists {
		if l := checkDiff(t, a, a); len(l) != 0 {
			t.Errorf("Diff(%v) to itself = %v", a, l)
		}
		for _, b := range lists {
			l := checkDiff(t, a, b)
			if x, e := mods.Apply(a, l); e != api.OK || !rules.Same(x, b) {
				t.Fatalf("Apply(%v, %v) = %v, error %d, want %v", a, l, x, e, b)
			}
		}
	}
}

// roomy returns r with room behind its lists, filled by texts that must not change.
func roomy(r api.Rules) (api.Rules, func() bool) {
	var rooms [][]string
	room := func(list []string) []string {
		long := append(slices.Clone(list), "room", "room")
		rooms = append(rooms, long[len(list):])
		return long[:len(list)]
	}
	for i := range r.Units {
		u := &r.Units[i]
		u.Needs, u.Trains, u.Researches = room(u.Needs), room(u.Trains), room(u.Researches)
	}
	for i := range r.Techs {
		r.Techs[i].Needs = room(r.Techs[i].Needs)
	}
	return r, func() bool {
		return !slices.ContainsFunc(rooms, func(list []string) bool { return list[0] != "room" || list[1] != "room" })
	}
}

// scribble changes whatever the memory of r holds.
func scribble(r api.Rules) {
	ink := func(list []string) {
		list = list[:cap(list)]
		for i := range list {
			list[i] = "ink"
		}
	}
	for i := range r.Units {
		ink(r.Units[i].Needs)
		ink(r.Units[i].Trains)
		ink(r.Units[i].Researches)
		r.Units[i] = api.UnitType{Name: "ink"}
	}
	for i := range r.Weapons {
		r.Weapons[i] = api.Weapon{Name: "ink"}
	}
	for i := range r.Techs {
		ink(r.Techs[i].Needs)
		r.Techs[i] = api.Tech{Name: "ink"}
	}
}

// P11.1: the result shares no memory with the argument, even if nothing changes.
func TestApplyMemory(t *testing.T) {
	for _, l := range [][]api.Edit{
		nil, {{Kind: 2, Name: "bow", Field: "damage", Old: "6", New: "7"}}, {{Kind: 2, Name: "axe", Old: "yes"}}, {{Kind: 2, Name: "aaa", New: "yes"}}, {{Kind: 2, Name: "zzz", New: "yes"}},
		{{Kind: 1, Name: "archer", Field: "needs", Old: "base,eyes", New: "base"}}, {{Kind: 1, Name: "base", Field: "hp", Old: "90", New: "1"}},
	} {
		r, untouched := roomy(duel())
		x, e := mods.Apply(r, l)
		if e != api.OK {
			t.Fatalf("Apply of %v: error %d", l, e)
		}
		want, _ := mods.Apply(duel(), l)
		scribble(r)
		if !rules.Same(x, want) {
			t.Errorf("Apply of %v shares memory", l)
		}
		r, untouched = roomy(duel())
		x, _ = mods.Apply(r, l)
		scribble(x)
		if !rules.Same(r, duel()) || !untouched() {
			t.Errorf("Apply of %v shares memory", l)
		}
	}
}
