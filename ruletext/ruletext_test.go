package ruletext_test

import (
	"fmt"
	"math"
	"math/big"
	"math/rand"
	"reflect"
	"regexp"
	"slices"
	"strconv"
	"strings"
	"testing"

	"skirmish/api"
	"skirmish/rules"
	"skirmish/ruletext"
)

// fieldsOf returns the names of the fields of a kind by the words of the chapter.
func fieldsOf(kind int) []string {
	text := map[int]string{
		1: "building, depot, class, w, h, radius, speed, sight, hp, armor, load, weapon, ore, wood, time, needs, trains, researches",
		2: "range, damage, cool, speed, splash",
		3: "needs, ore, wood, time, unit, stat, amount",
	}[kind]
	if text == "" {
		return nil
	}
	return strings.Split(text, ", ")
}

// noKinds are numbers that are not kinds.
var noKinds = []int{0, 4, 5, -1, -2, -3, 1 << 32, 1<<32 + 1, 1 << 8, 1<<8 + 2, math.MaxInt, math.MinInt, math.MinInt + 1}

// odd returns rules that are not valid: out of order, with equal names in and across the kinds, with names that are none, and with any numbers.
func odd() api.Rules {
	return api.Rules{
		Units: []api.UnitType{
			{Name: "zoo", Depot: true, Class: math.MinInt, W: math.MaxInt, H: -1, Weapon: "-", Needs: []string{""}, Trains: []string{"", ""}, Researches: []string{"-"}},
			{Name: "twin", Hp: 1, Needs: []string{"a,b", "c"}, Weapon: "No Name"},
			{Name: "twin", Hp: 2, Building: true, Weapon: "x", Researches: slices.Repeat([]string{"many"}, 20)},
			{Name: "", Speed: -7, Needs: []string{}},
			{Name: "a name too long", Armor: 1 << 40, Trains: []string{"\n"}},
			{Name: "bow", Sight: 3},
		},
		Weapons: []api.Weapon{{Name: "twin", Range: 1}, {Name: "bow", Cool: math.MinInt}, {Name: "twin", Range: 2}, {Name: "", Splash: 9}, {Name: "Bow", Damage: math.MaxInt}},
		Techs:   []api.Tech{{Name: "twin", Unit: "\xff"}, {Name: "axe", Stat: -1}, {Name: "axe", Stat: -2, Needs: []string{"z", "a", "a"}}, {Name: "", Unit: "-"}},
	}
}

// elementsOf returns the elements of a kind, so that they can be changed.
func elementsOf(r *api.Rules, kind int) reflect.Value {
	switch kind {
	case 1:
		return reflect.ValueOf(&r.Units).Elem()
	case 2:
		return reflect.ValueOf(&r.Weapons).Elem()
	case 3:
		return reflect.ValueOf(&r.Techs).Elem()
	}
	return reflect.ValueOf([]struct{ Name string }{})
}

// fieldOf returns the field of api that has the name of a field.
func fieldOf(element reflect.Value, field string) reflect.Value {
	return element.FieldByName(strings.ToUpper(field[:1]) + field[1:])
}

// valueText returns the text of a value by the words of the chapter.
func valueText(v reflect.Value) string {
	switch x := v.Interface().(type) {
	case int:
		return fmt.Sprint(x)
	case bool:
		return map[bool]string{true: "yes", false: "no"}[x]
	case string:
		if x != "" {
			return x
		}
	case []string:
		if len(x) > 0 {
			text := x[0]
			for _, s := range x[1:] {
				text += "," + s
			}
			return text
		}
	}
	return "-"
}

// got returns by the words of the chapter what Get should return.
func got(r api.Rules, kind int, name, field string) (string, bool) {
	elements := elementsOf(&r, kind)
	if !slices.Contains(fieldsOf(kind), field) {
		return "", false
	}
	for i := range elements.Len() {
		if elements.Index(i).FieldByName("Name").String() == name {
			return valueText(fieldOf(elements.Index(i), field)), true
		}
	}
	return "", false
}

// The forms of texts that are readable.
var (
	numberForm = regexp.MustCompile(`^(0|-?[1-9][0-9]*)$`)
	flagForm   = regexp.MustCompile(`^(yes|no)$`)
	nameForm   = regexp.MustCompile(`^(-|[a-z][a-z0-9_]{0,11})$`)
	listForm   = regexp.MustCompile(`^(-|[a-z][a-z0-9_]{0,11}(,[a-z][a-z0-9_]{0,11})*)$`)
)

// put gives a field the value that a text is readable as by the words of the chapter, and tells whether it is.
func put(v reflect.Value, text string) bool {
	switch v.Kind() {
	case reflect.Int:
		n, isNumber := new(big.Int).SetString(text, 10)
		if !isNumber || !n.IsInt64() || !numberForm.MatchString(text) {
			return false
		}
		v.SetInt(n.Int64())
	case reflect.Bool:
		v.SetBool(text == "yes")
		return flagForm.MatchString(text)
	case reflect.String:
		v.SetString(strings.TrimPrefix(text, "-"))
		return nameForm.MatchString(text)
	case reflect.Slice:
		v.SetZero()
		if text != "-" {
			v.Set(reflect.ValueOf(strings.Split(text, ",")))
		}
		return listForm.MatchString(text)
	}
	return true
}

// copied returns rules with the same fields and memory of their own.
func copied(r api.Rules) api.Rules {
	x := api.Rules{Units: slices.Clone(r.Units), Weapons: slices.Clone(r.Weapons), Techs: slices.Clone(r.Techs)}
	for i, u := range x.Units {
		x.Units[i].Needs, x.Units[i].Trains, x.Units[i].Researches = slices.Clone(u.Needs), slices.Clone(u.Trains), slices.Clone(u.Researches)
	}
	for i, t := range x.Techs {
		x.Techs[i].Needs = slices.Clone(t.Needs)
	}
	return x
}

// replaced returns by the words of the chapter what Set should return.
func replaced(r api.Rules, kind int, name, field, value string) (api.Rules, api.Errno) {
	if !slices.Contains(fieldsOf(kind), field) {
		return api.Rules{}, 1
	}
	x := copied(r)
	elements := elementsOf(&x, kind)
	for i := range elements.Len() {
		if elements.Index(i).FieldByName("Name").String() != name {
			continue
		}
		if !put(fieldOf(elements.Index(i), field), value) {
			return api.Rules{}, 5
		}
		return x, 0
	}
	return api.Rules{}, 8
}

// namesIn returns the names of the elements of r, names of no element, and texts that are not names.
func namesIn(r api.Rules) []string {
	list := []string{"axe2", "", "-", "bas", "basee", "Base", "base ", " base", "bow\n", "a name too long", "hp", "\x00", strings.Repeat("a", 100)}
	for kind := 1; kind <= 3; kind++ {
		elements := elementsOf(&r, kind)
		for i := range elements.Len() {
			list = append(list, elements.Index(i).FieldByName("Name").String())
		}
	}
	return list
}

// allFields returns the names of the fields of all kinds, and texts that are no fields.
func allFields() []string {
	list := []string{"", "name", "Name", "Hp", "HP", " hp", "hp ", "hp\n", "-", "W", "H", "x", "units", "kind", "weapons", "need", "need,s", "building, depot", "yes", "left"}
	for kind := 1; kind <= 3; kind++ {
		list = append(list, fieldsOf(kind)...)
	}
	return list
}

// allKinds returns the kinds and numbers that are not.
func allKinds() []int {
	return append([]int{1, 2, 3}, noKinds...)
}

// P10.1
func TestFields(t *testing.T) {
	for _, kind := range allKinds() {
		if list := ruletext.Fields(kind); !slices.Equal(list, fieldsOf(kind)) {
			t.Errorf("Fields(%d) = %v", kind, list)
		}
	}
	for kind := 1; kind <= 3; kind++ {
		list := ruletext.Fields(kind)
		for i := range list {
			list[i] = "changed"
		}
		if !slices.Equal(ruletext.Fields(kind), fieldsOf(kind)) {
			t.Errorf("Fields(%d) shares its memory", kind)
		}
	}
}

// P10.2: the examples.
func TestGetExamples(t *testing.T) {
	r := duelRules()
	for _, c := range []struct {
		kind              int
		name, field, want string
		ok                bool
	}{
		{2, "bow", "damage", "6", true}, {2, "bow", "hp", "", false}, {2, "bow", "splash", "0", true}, {2, "axe", "damage", "", false}, {1, "bow", "damage", "", false},
		{1, "base", "building", "yes", true}, {1, "archer", "building", "no", true}, {1, "archer", "depot", "no", true}, {1, "base", "weapon", "-", true}, {1, "archer", "weapon", "bow", true},
		{1, "base", "needs", "-", true}, {1, "archer", "needs", "base,eyes", true}, {1, "base", "trains", "archer", true}, {1, "base", "researches", "eyes", true}, {1, "archer", "researches", "-", true},
		{1, "base", "w", "2", true}, {1, "base", "h", "2", true}, {3, "eyes", "unit", "archer", true}, {3, "eyes", "needs", "-", true}, {3, "eyes", "stat", "4", true},
		{1, "base", "name", "", false}, {1, "base", "", "", false}, {4, "base", "hp", "", false}, {0, "base", "hp", "", false}, {-1, "base", "hp", "", false}, {3, "base", "ore", "", false},
	} {
		if s, ok := ruletext.Get(r, c.kind, c.name, c.field); s != c.want || ok != c.ok {
			t.Errorf("Get(%d, %q, %q) = %q, %v", c.kind, c.name, c.field, s, ok)
		}
	}
}

// P10.2: every field of every element, and places where there is none, of rules of all sorts.
func TestGet(t *testing.T) {
	found := 0
	for i, r := range []api.Rules{duelRules(), odd(), full(), {}} {
		before := fmt.Sprintf("%#v", r)
		for _, kind := range allKinds() {
			for _, name := range namesIn(r) {
				for _, field := range allFields() {
					s, ok := ruletext.Get(r, kind, name, field)
					want, there := got(r, kind, name, field)
					if s != want || ok != there {
						t.Fatalf("rules %d: Get(%d, %q, %q) = %q, %v, want %q, %v", i, kind, name, field, s, ok, want, there)
					}
					if ok {
						found++
					}
				}
			}
		}
		if fmt.Sprintf("%#v", r) != before {
			t.Errorf("Get changes the rules %d", i)
		}
	}
	if found < 1000 {
		t.Errorf("only %d values", found)
	}
}

// P10.3: the examples, and the order of the errors.
func TestSetExamples(t *testing.T) {
	r := duelRules()
	for _, c := range []struct {
		kind               int
		name, field, value string
		want               api.Errno
	}{
		{2, "bow", "damage", "07", api.ErrSyntax}, {4, "bow", "damage", "07", api.ErrArg}, {2, "axe", "damage", "07", api.ErrNotFound}, {2, "bow", "hp", "7", api.ErrArg},
		{4, "axe", "damage", "07", api.ErrArg}, {2, "axe", "hp", "07", api.ErrArg}, {0, "bow", "damage", "7", api.ErrArg}, {1, "bow", "damage", "7", api.ErrArg}, {1, "bow", "hp", "7", api.ErrNotFound},
		{1, "base", "name", "q", api.ErrArg}, {1, "base", "", "yes", api.ErrArg}, {1, "base", "hp", "-9223372036854775808", api.OK}, {1, "base", "hp", "9223372036854775807", api.OK},
		{1, "base", "hp", "-9223372036854775809", api.ErrSyntax}, {1, "base", "hp", "9223372036854775808", api.ErrSyntax}, {1, "base", "hp", "yes", api.ErrSyntax}, {1, "base", "hp", "-", api.ErrSyntax},
		{1, "base", "depot", "no", api.OK}, {1, "base", "depot", "-", api.ErrSyntax}, {1, "base", "depot", "1", api.ErrSyntax}, {1, "base", "depot", "Yes", api.ErrSyntax}, {1, "base", "depot", "", api.ErrSyntax},
		{1, "base", "weapon", "yes", api.OK}, {1, "base", "weapon", "a,b", api.ErrSyntax}, {1, "base", "weapon", "", api.ErrSyntax}, {1, "base", "weapon", "7", api.ErrSyntax}, {1, "base", "weapon", "-", api.OK},
		{1, "base", "needs", "b,a", api.OK}, {1, "base", "needs", "a,a", api.OK}, {1, "base", "needs", "", api.ErrSyntax}, {1, "base", "needs", "a,,b", api.ErrSyntax}, {1, "base", "needs", ",", api.ErrSyntax},
		{1, "base", "needs", "a,-", api.ErrSyntax}, {1, "base", "needs", "a, b", api.ErrSyntax}, {3, "eyes", "unit", "-", api.OK}, {3, "eyes", "stat", "99", api.OK},
	} {
		x, e := ruletext.Set(r, c.kind, c.name, c.field, c.value)
		if e != c.want {
			t.Errorf("Set(%d, %q, %q, %q): error %d, want %d", c.kind, c.name, c.field, c.value, e, c.want)
		}
		if e != api.OK && !reflect.DeepEqual(x, api.Rules{}) {
			t.Errorf("Set(%d, %q, %q, %q) returns rules and an error", c.kind, c.name, c.field, c.value)
		}
	}
}

// values are texts that are readable as values of some sort, or nearly so.
func values() []string {
	list := []string{
		"", "-", "--", "-,-", "-,a", "a,-", "yes", "no", "Yes", "YES", "no ", " no", "yes\n", "ye", "yess", "yes,no", "true", "false", "y", "n",
		"0", "-0", "+0", "00", "7", "07", "+7", "-7", "- 7", "7 ", " 7", "7.", "7.0", ".7", "7e1", "0x7", "0b1", "0o7", "1_0", "1,0", "-1,5", "--7", "7-", "\u0667", "7\x00",
		"9223372036854775807", "9223372036854775808", "-9223372036854775808", "-9223372036854775809", "18446744073709551615", "18446744073709551617", "09223372036854775807", strings.Repeat("9", 30), strings.Repeat("1", 400),
		"a", "z", "a1", "a_", "tank_2", "2tank", "_a", "A", "aB", "a b", "a ", " a", "a-b", "a.b", "abcdefghijkl", "abcdefghijklm", "a\n", "é", "aé", "a\x00", "a\xff",
		"a,b", "b,a", "a,a", "a,b,c,d", "a,b,c,d,e", "a,b,", ",a", ",", ",,", "a,,b", "a, b", "a ,b", "a;b", "a,B", "a,2", "a,abcdefghijkl", "a,abcdefghijklm", "abcdefghijklm,a", "a,b\n", strings.Repeat("a,", 500) + "a", strings.Repeat("b", 12) + strings.Repeat(",c", 50),
	}
	for c := range 256 {
		s := string([]byte{byte(c)})
		list = append(list, s, s+"1", "a"+s+"b", "a,"+s)
	}
	return list
}

// P10.3, P10.7: every field of every element, set to texts of all sorts; all other fields are as before.
func TestSet(t *testing.T) {
	for i, r := range []api.Rules{duelRules(), odd()} {
		before := fmt.Sprintf("%#v", r)
		accepted, refused := 0, 0
		for kind := 1; kind <= 3; kind++ {
			elements := elementsOf(&r, kind)
			for at := range elements.Len() {
				name := elements.Index(at).FieldByName("Name").String()
				for _, field := range fieldsOf(kind) {
					for _, value := range values() {
						x, e := ruletext.Set(r, kind, name, field, value)
						want, f := replaced(r, kind, name, field, value)
						if e != f || !rules.Same(x, want) {
							t.Fatalf("rules %d: Set(%d, %q, %q, %q): error %d, want %d", i, kind, name, field, value, e, f)
						}
						if e != api.OK {
							refused++
							continue
						}
						accepted++
						if s, ok := ruletext.Get(x, kind, name, field); s != value || !ok {
							t.Fatalf("rules %d: Get after Set(%d, %q, %q, %q) = %q, %v", i, kind, name, field, value, s, ok)
						}
					}
				}
			}
		}
		if fmt.Sprintf("%#v", r) != before {
			t.Errorf("Set changes the rules %d", i)
		}
		if accepted < 1000 || refused < 1000 {
			t.Errorf("rules %d: %d accepted, %d refused", i, accepted, refused)
		}
	}
}

// P10.3: places where there is no field or element, with texts that are readable and that are not.
func TestSetNowhere(t *testing.T) {
	for i, r := range []api.Rules{duelRules(), odd(), {}} {
		for _, kind := range allKinds() {
			for _, name := range namesIn(r) {
				for _, field := range allFields() {
					for _, value := range []string{"7", "07", "yes", "-", "a,b", ""} {
						x, e := ruletext.Set(r, kind, name, field, value)
						want, f := replaced(r, kind, name, field, value)
						if e != f || !rules.Same(x, want) {
							t.Fatalf("rules %d: Set(%d, %q, %q, %q): error %d, want %d", i, kind, name, field, value, e, f)
						}
					}
				}
			}
		}
	}
}

// roomy returns r with room behind its lists, filled by texts that must not change.
func roomy(r api.Rules) (api.Rules, func() bool) {
	var rooms [][]string
	room := func(list []string) []string {
		long := append(slices.Clone(list), "room", "room")
		rooms = append(rooms, long[len(list):])
		return long[:len(list)]
	}
	for i := range r.Units {
		u := &r.Units[i]
		u.Needs, u.Trains, u.Researches = room(u.Needs), room(u.Trains), room(u.Researches)
	}
	for i := range r.Techs {
		r.Techs[i].Needs = room(r.Techs[i].Needs)
	}
	return r, func() bool {
		return !slices.ContainsFunc(rooms, func(list []string) bool { return list[0] != "room" || list[1] != "room" })
	}
}

// scribble changes whatever the memory of r holds.
func scribble(r api.Rules) {
	ink := func(list []string) {
		for i := range list {
			list[i] = "ink"
		}
		_ = append(list, "ink")
	}
	for i := range r.Units {
		ink(r.Units[i].Needs)
		ink(r.Units[i].Trains)
		ink(r.Units[i].Researches)
		r.Units[i] = api.UnitType{Name: "ink"}
	}
	for i := range r.Weapons {
		r.Weapons[i] = api.Weapon{Name: "ink"}
	}
	for i := range r.Techs {
		ink(r.Techs[i].Needs)
		r.Techs[i] = api.Tech{Name: "ink"}
	}
}

// P10.3: the result shares no memory with the argument.
func TestSetMemory(t *testing.T) {
	for _, c := range []struct {
		kind               int
		name, field, value string
	}{{1, "archer", "needs", "x,y"}, {1, "archer", "needs", "-"}, {1, "base", "hp", "7"}, {2, "bow", "range", "1"}, {3, "eyes", "needs", "a"}, {3, "eyes", "unit", "-"}, {1, "archer", "depot", "yes"}} {
		r, untouched := roomy(duelRules())
		x, e := ruletext.Set(r, c.kind, c.name, c.field, c.value)
		if e != api.OK {
			t.Fatalf("Set(%d, %q, %q, %q): error %d", c.kind, c.name, c.field, c.value, e)
		}
		scribble(x)
		if !rules.Same(r, duelRules()) || !untouched() {
			t.Errorf("Set(%d, %q, %q, %q) shares memory", c.kind, c.name, c.field, c.value)
		}
		x, _ = ruletext.Set(r, c.kind, c.name, c.field, c.value)
		want, _ := replaced(duelRules(), c.kind, c.name, c.field, c.value)
		scribble(r)
		if !rules.Same(x, want) {
			t.Errorf("Set(%d, %q, %q, %q) keeps memory", c.kind, c.name, c.field, c.value)
		}
	}
}

// P10.7: many values set one after the other, by names of elements of all kinds.
func TestSetRepeated(t *testing.T) {
	random := rand.New(rand.NewSource(1))
	for _, r := range []api.Rules{duelRules(), odd(), full()} {
		list := namesIn(r)
		for range 3000 {
			kind := 1 + random.Intn(3)
			name := list[random.Intn(len(list))]
			field := fieldsOf(kind)[random.Intn(len(fieldsOf(kind)))]
			value := []string{"yes", "no", "-", "a", "a,b", "tank_2", strconv.Itoa(int(random.Uint64())), strconv.Itoa(random.Intn(200) - 100)}[random.Intn(8)]
			x, e := ruletext.Set(r, kind, name, field, value)
			want, f := replaced(r, kind, name, field, value)
			if e != f || !rules.Same(x, want) {
				t.Fatalf("Set(%d, %q, %q, %q): error %d, want %d", kind, name, field, value, e, f)
			}
			if e == api.OK {
				r = x
			}
		}
	}
}

// P10.8
func TestSetSame(t *testing.T) {
	random := rand.New(rand.NewSource(2))
	all := []api.Rules{duelRules(), full()}
	for range 20 {
		all = append(all, randomRules(random))
	}
	for i, r := range all {
		for kind := 1; kind <= 3; kind++ {
			elements := elementsOf(&r, kind)
			for at := range elements.Len() {
				name := elements.Index(at).FieldByName("Name").String()
				for _, field := range fieldsOf(kind) {
					value, ok := ruletext.Get(r, kind, name, field)
					x, e := ruletext.Set(r, kind, name, field, value)
					if !ok || e != api.OK || !rules.Same(x, r) {
						t.Errorf("rules %d: Set(%d, %q, %q, %q): error %d", i, kind, name, field, value, e)
					}
				}
			}
		}
	}
}
