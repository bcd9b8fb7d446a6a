package rules_test

import (
	"reflect"
	"slices"
	"strings"
	"testing"

	"skirmish/api"
	"skirmish/rules"
)

// sample returns valid rules in which every list and every sort of reference occurs.
func sample() api.Rules {
	return api.Rules{
		Units: []api.UnitType{
			{Name: "base", Building: true, Depot: true, W: 2, H: 3, Sight: 4, Hp: 100, Armor: 1, Ore: 50, Wood: 20, Time: 30, Trains: []string{"worker"}},
			{Name: "forge", Building: true, W: 1, H: 1, Hp: 50, Weapon: "bow", Needs: []string{"base"}, Trains: []string{"soldier"}, Researches: []string{"armor", "steel"}},
			{Name: "soldier", Class: api.CFoot, Radius: 40, Speed: 64, Sight: 5, Hp: 20, Weapon: "gun", Ore: 5, Needs: []string{"armor", "base", "forge"}},
			{Name: "worker", Class: api.CHover, Radius: 30, Speed: 32, Sight: 3, Hp: 9, Load: 5, Time: 4, Trains: []string{"base", "forge"}},
		},
		Weapons: []api.Weapon{{Name: "bow", Range: 768, Damage: 6, Cool: 8, Speed: 64, Splash: 3}, {Name: "gun", Range: 512, Damage: 2, Cool: 1}},
		Techs: []api.Tech{
			{Name: "armor", Needs: []string{"forge", "steel"}, Ore: 7, Wood: 8, Time: 9, Unit: "soldier", Stat: api.StArmor, Amount: 2},
			{Name: "steel", Unit: "worker", Stat: api.StHp, Amount: 3},
		},
	}
}

// isName tells by the words of the chapter whether s is a name.
func isName(s string) bool {
	const letters, others = "abcdefghijklmnopqrstuvwxyz", "0123456789_"
	return 1 <= len(s) && len(s) <= 12 && strings.Contains(letters, s[:1]) && strings.Trim(s, letters+others) == ""
}

// texts are texts that are names, or nearly so.
func texts() []string {
	list := []string{
		"", "a", "z", "a1", "a_", "a__9", "tank_2", "2tank", "abcdefghijkl", "z23456789012", "abcdefghijklm", "a_0123456789z", "a___________", "a____________",
		"_", "_a", "0", "9a", "A", "aB", "a b", " a", "a ", "a-b", "a.b", "a,b", "-", "a\n", "\na", "a\x00", "\x00", "é", "aé", "ａ", "a\xff", "a\u0661", strings.Repeat("a", 13), strings.Repeat("a", 1000),
	}
	for c := range 256 {
		s := string([]byte{byte(c)})
		list = append(list, s, "q"+s, "q"+s+"7", s+"q", "q0123456789"+s, "q01234567890"+s)
	}
	return list
}

// P9.1
func TestName(t *testing.T) {
	for s, want := range map[string]bool{"tank_2": true, "2tank": false, "": false, "abcdefghijkl": true, "abcdefghijklm": false, "_": false, "z": true, "A": false} {
		if rules.Name(s) != want {
			t.Errorf("Name(%q) = %v", s, !want)
		}
	}
	names := 0
	for _, s := range texts() {
		if rules.Name(s) != isName(s) {
			t.Errorf("Name(%q) = %v", s, !isName(s))
		}
		if isName(s) {
			names++
		}
	}
	if names < 26+37+37+26+37 {
		t.Errorf("only %d names", names)
	}
}

// P9.3: rules that are valid.
func TestElements(t *testing.T) {
	r := sample()
	for _, want := range r.Units {
		if u, ok := rules.Unit(r, want.Name); !ok || !reflect.DeepEqual(u, want) {
			t.Errorf("Unit(%q) = %v, %v", want.Name, u, ok)
		}
	}
	for _, want := range r.Weapons {
		if w, ok := rules.Weapon(r, want.Name); !ok || w != want {
			t.Errorf("Weapon(%q) = %v, %v", want.Name, w, ok)
		}
	}
	for _, want := range r.Techs {
		if x, ok := rules.Tech(r, want.Name); !ok || !reflect.DeepEqual(x, want) {
			t.Errorf("Tech(%q) = %v, %v", want.Name, x, ok)
		}
	}
}

// missing checks that r has no unit type, weapon or technology with a name.
func missing(t *testing.T, r api.Rules, name string, unit, weapon, tech bool) {
	t.Helper()
	if u, ok := rules.Unit(r, name); unit && (ok || !reflect.DeepEqual(u, api.UnitType{})) {
		t.Errorf("Unit(%q) = %v, %v", name, u, ok)
	}
	if w, ok := rules.Weapon(r, name); weapon && (ok || w != api.Weapon{}) {
		t.Errorf("Weapon(%q) = %v, %v", name, w, ok)
	}
	if x, ok := rules.Tech(r, name); tech && (ok || !reflect.DeepEqual(x, api.Tech{})) {
		t.Errorf("Tech(%q) = %v, %v", name, x, ok)
	}
}

// P9.3: elements that are not there, or are of another sort.
func TestMissingElements(t *testing.T) {
	for _, name := range []string{"", "a", "bas", "basee", "Base", "base ", "zzz", "aaa", "bow\x00"} {
		missing(t, sample(), name, true, true, true)
		missing(t, api.Rules{}, name, true, true, true)
	}
	missing(t, sample(), "base", false, true, true)
	missing(t, sample(), "worker", false, true, true)
	missing(t, sample(), "bow", true, false, true)
	missing(t, sample(), "gun", true, false, true)
	missing(t, sample(), "armor", true, true, false)
	missing(t, sample(), "steel", true, true, false)
}

// P9.3: the first element counts in rules that are not valid, in any order and of any size, with names of any form.
func TestElementsOfInvalidRules(t *testing.T) {
	names := []string{"z", "a", "", "z", "M", "a", "b c", "", strings.Repeat("long", 100)}
	var r api.Rules
	for i, name := range names {
		r.Units = append(r.Units, api.UnitType{Name: name, Hp: -i - 1})
		r.Weapons = append(r.Weapons, api.Weapon{Name: name, Range: -i - 1})
		r.Techs = append(r.Techs, api.Tech{Name: name, Amount: -i - 1})
	}
	r.Units = slices.Repeat(r.Units, 1000)
	for _, name := range names {
		want := -slices.Index(names, name) - 1
		if u, ok := rules.Unit(r, name); !ok || u.Hp != want || u.Name != name {
			t.Errorf("Unit(%q) = %v, %v", name, u, ok)
		}
		if w, ok := rules.Weapon(r, name); !ok || w.Range != want || w.Name != name {
			t.Errorf("Weapon(%q) = %v, %v", name, w, ok)
		}
		if x, ok := rules.Tech(r, name); !ok || x.Amount != want || x.Name != name {
			t.Errorf("Tech(%q) = %v, %v", name, x, ok)
		}
	}
	missing(t, r, "b", true, true, true)
}

// fields calls visit for each field of the elements of r and the lists themselves, with a name for messages.
func fields(r *api.Rules, visit func(name string, field reflect.Value)) {
	lists := reflect.ValueOf(r).Elem()
	for i := range lists.NumField() {
		list := lists.Field(i)
		visit(lists.Type().Field(i).Name, list)
		for n := range list.Len() {
			for f := range list.Index(n).NumField() {
				visit(list.Type().Elem().Name()+"."+list.Index(n).Type().Field(f).Name, list.Index(n).Field(f))
			}
		}
	}
}

// changes returns functions that give a field other values than it has.
func changes(field reflect.Value) []func() {
	switch field.Kind() {
	case reflect.Bool:
		return []func(){func() { field.SetBool(!field.Bool()) }}
	case reflect.Int:
		return []func(){func() { field.SetInt(field.Int() + 1) }, func() { field.SetInt(-field.Int() - 1) }, func() { field.SetInt(field.Int() + 1<<32) }}
	case reflect.String:
		return []func(){func() { field.SetString(field.String() + "a") }, func() { field.SetString(strings.ToUpper(field.String()) + " ") }}
	}
	list := []func(){func() { field.Set(reflect.Append(field, reflect.Zero(field.Type().Elem()))) }}
	if n := field.Len(); n > 0 {
		list = append(list, func() { field.Set(field.Slice(0, n-1)) }, func() { field.Set(field.Slice(1, n)) })
		for i := range n {
			if field.Type().Elem().Kind() == reflect.String {
				list = append(list, func() { field.Index(i).SetString("other") })
			}
		}
	}
	if field.Len() > 1 {
		list = append(list, func() { reflect.Swapper(field.Interface())(0, 1) })
	}
	return list
}

// changed returns the sample with the change k of the field i, and the field's name; false if there is no such change or field.
func changed(i, k int) (api.Rules, string, bool) {
	r, at, found, done := sample(), 0, "", false
	fields(&r, func(name string, field reflect.Value) {
		if list := changes(field); at == i && k < len(list) {
			list[k]()
			found, done = name, true
		}
		at++
	})
	return r, found, done
}

// P9.5: each change of each field makes a difference.
func TestSameFields(t *testing.T) {
	if !rules.Same(sample(), sample()) || !rules.Same(api.Rules{}, api.Rules{}) {
		t.Fatal("Same of the same rules is false")
	}
	seen := map[string]bool{}
	for i := range 150 {
		for k := range 20 {
			r, name, ok := changed(i, k)
			if ok && (rules.Same(r, sample()) || rules.Same(sample(), r)) {
				t.Errorf("Same does not see the change %d of the field %s", k, name)
			}
			if !rules.Same(r, r) {
				t.Errorf("Same of rules with the change %d of the field %s and themselves", k, name)
			}
			seen[name] = true
		}
	}
	// The three lists, the fields of all sorts of elements, and no field at all.
	if len(seen) != 3+19+6+8+1 {
		t.Errorf("%d fields", len(seen))
	}
}

// P9.5: an empty list equals a missing one.
func TestSameEmptyLists(t *testing.T) {
	if !rules.Same(api.Rules{}, api.Rules{Units: []api.UnitType{}, Weapons: []api.Weapon{}, Techs: []api.Tech{}}) {
		t.Error("empty lists of elements")
	}
	r, s := sample(), sample()
	emptied := 0
	fields(&s, func(name string, field reflect.Value) {
		if field.Kind() == reflect.Slice && field.Len() == 0 {
			field.Set(reflect.MakeSlice(field.Type(), 0, 3))
			emptied++
		}
	})
	if emptied != 7 || !rules.Same(r, s) || !rules.Same(s, r) {
		t.Errorf("%d empty lists of names", emptied)
	}
}

// P9.5: elements in another order, and rules that differ in the number of elements.
func TestSameLists(t *testing.T) {
	for i, change := range []func(*api.Rules){
		func(r *api.Rules) { slices.Reverse(r.Units) },
		func(r *api.Rules) { slices.Reverse(r.Weapons) },
		func(r *api.Rules) { slices.Reverse(r.Techs) },
		func(r *api.Rules) { r.Units = nil },
		func(r *api.Rules) { r.Weapons = nil },
		func(r *api.Rules) { r.Techs = nil },
		func(r *api.Rules) { r.Units = append(r.Units, r.Units[3]) },
		func(r *api.Rules) { r.Units[0] = r.Units[1] },
	} {
		r := sample()
		change(&r)
		if rules.Same(r, sample()) || rules.Same(sample(), r) || !rules.Same(r, r) {
			t.Errorf("change %d", i)
		}
	}
}

// General rule 0.4: arguments are not changed, also behind their lists. Rule 7 of the language: results share no memory with them.
func TestArgumentsAreNotChanged(t *testing.T) {
	r := sample()
	for i := range r.Units {
		r.Units[i].Needs = append(make([]string, 0, 9), r.Units[i].Needs...)
	}
	r.Units = append(make([]api.UnitType, 0, 20), r.Units...)
	u, _ := rules.Unit(r, "forge")
	x, _ := rules.Tech(r, "armor")
	names, e := rules.Order(r)
	if e != api.OK {
		t.Fatal(e)
	}
	for _, list := range [][]string{u.Needs, u.Trains, u.Researches, x.Needs, names} {
		for i := range list {
			list[i] = "changed"
		}
	}
	if !reflect.DeepEqual(r.Units[1], sample().Units[1]) || !rules.Same(r, sample()) {
		t.Error("a result shares memory with the rules")
	}
	for _, v := range r.Units[:20][4:] {
		if !reflect.DeepEqual(v, api.UnitType{}) {
			t.Error("the room behind the unit types was changed")
		}
	}
	for _, v := range r.Units {
		for _, s := range v.Needs[:9][len(v.Needs):] {
			if s != "" {
				t.Error("the room behind a list of needs was changed")
			}
		}
	}
}
