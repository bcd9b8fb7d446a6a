package ruletext_test

import (
	"fmt"
	"math/rand"
	"reflect"
	"regexp"
	"slices"
	"strings"
	"testing"

	"skirmish/api"
	"skirmish/rules"
	"skirmish/ruletext"
)

// full returns valid rules with as many elements, names and digits as there may be.
func full() api.Rules {
	name := func(letter string, i int) string { return letter + fmt.Sprintf("_name_%05d", i) }
	four := func(letter string) []string {
		return []string{name(letter, 0), name(letter, 1), name(letter, 2), name(letter, 3)}
	}
	var r api.Rules
	for i := range api.MaxTypes {
		u := api.UnitType{Name: name("u", i), Building: true, Depot: true, W: 4, H: 4, Sight: 16, Hp: api.MaxStat, Armor: api.MaxStat, Weapon: name("w", i%8), Ore: api.MaxStat, Wood: api.MaxStat, Time: api.MaxStat}
		u.Trains = []string{name("u", 12), name("u", 13), name("u", 14), name("u", 15)}
		u.Researches = four("t")
		if i >= 12 {
			u.Building, u.Depot, u.W, u.H, u.Researches = false, false, 0, 0, nil
			u.Class, u.Radius, u.Speed, u.Load = api.CFly, 128, api.Scale, api.MaxStat
			u.Needs, u.Trains = four("u"), four("u")
		}
		r.Units = append(r.Units, u)
	}
	for i := range api.MaxWeapons {
		r.Weapons = append(r.Weapons, api.Weapon{Name: name("w", i), Range: 32 * api.Scale, Damage: api.MaxStat, Cool: api.MaxStat, Speed: 2 * api.Scale, Splash: 4 * api.Scale})
	}
	for i := range api.MaxTechs {
		r.Techs = append(r.Techs, api.Tech{Name: name("t", i), Needs: four("u"), Ore: api.MaxStat, Wood: api.MaxStat, Time: api.MaxStat, Unit: name("u", i), Stat: api.StRange, Amount: api.MaxStat})
	}
	return r
}

// choose returns at most four of some names, in ascending order.
func choose(random *rand.Rand, from []string) []string {
	var list []string
	for _, i := range random.Perm(len(from))[:min(len(from), random.Intn(5))] {
		list = append(list, from[i])
	}
	slices.Sort(list)
	return list
}

// randomRules returns valid rules: unit types a00 and on, weapons w0 and on, and technologies t00 and on.
func randomRules(random *rand.Rand) api.Rules {
	var r api.Rules
	var buildings, units, techs, needed, weapons []string
	for i := range random.Intn(api.MaxWeapons + 1) {
		w := api.Weapon{Name: fmt.Sprintf("w%d", i), Range: random.Intn(8193), Damage: random.Intn(100001), Cool: random.Intn(20), Speed: random.Intn(513), Splash: random.Intn(1025)}
		r.Weapons = append(r.Weapons, w)
		weapons = append(weapons, w.Name)
	}
	for i := range random.Intn(api.MaxTypes + 1) {
		u := api.UnitType{Name: fmt.Sprintf("a%02d", i), Sight: random.Intn(17), Hp: 1 + random.Intn(100000), Armor: random.Intn(9), Ore: random.Intn(100001), Wood: random.Intn(9), Time: random.Intn(99), Needs: choose(random, needed)}
		if len(weapons) > 0 && random.Intn(2) == 0 {
			u.Weapon = weapons[random.Intn(len(weapons))]
		}
		if random.Intn(2) == 0 {
			u.Building, u.Depot, u.W, u.H = true, random.Intn(2) == 0, 1+random.Intn(4), 1+random.Intn(4)
			buildings, needed = append(buildings, u.Name), append(needed, u.Name)
		} else {
			u.Class, u.Radius, u.Speed, u.Load = 1+random.Intn(3), 16+random.Intn(113), random.Intn(257), random.Intn(30)
			units = append(units, u.Name)
		}
		r.Units = append(r.Units, u)
	}
	for i := 0; i < random.Intn(api.MaxTechs+1) && len(r.Units) > 0; i++ {
		x := api.Tech{Name: fmt.Sprintf("t%02d", i), Needs: choose(random, needed), Ore: random.Intn(9), Wood: random.Intn(999), Time: random.Intn(100001), Unit: r.Units[random.Intn(len(r.Units))].Name, Stat: 1 + random.Intn(6), Amount: random.Intn(100001)}
		slices.Sort(x.Needs)
		r.Techs = append(r.Techs, x)
		techs, needed = append(techs, x.Name), append(needed, x.Name)
	}
	for i := range r.Units {
		if r.Units[i].Building {
			r.Units[i].Trains, r.Units[i].Researches = choose(random, units), choose(random, techs)
		} else {
			r.Units[i].Trains = choose(random, buildings)
		}
	}
	return r
}

// printed returns the lines of all elements of r by the words of the chapter.
func printed(r api.Rules) string {
	text := ""
	for kind := 1; kind <= 3; kind++ {
		elements := elementsOf(&r, kind)
		for i := range elements.Len() {
			text += []string{"", "unit", "weapon", "tech"}[kind] + " " + elements.Index(i).FieldByName("Name").String() + "\n"
			for _, field := range fieldsOf(kind) {
				text += " " + field + " " + valueText(fieldOf(elements.Index(i), field)) + "\n"
			}
		}
	}
	return text
}

// headForm is the form of the first line of an element.
var headForm = regexp.MustCompile(`^(unit|weapon|tech) ([a-z][a-z0-9_]{0,11})\n$`)

// parsed returns by the words of the chapter what Parse should return.
func parsed(s string) (api.Rules, int, api.Errno) {
	if len(s) > 32768 {
		return api.Rules{}, 0, 2
	}
	var r api.Rules
	var element reflect.Value
	var follow []string
	before := 0
	for i, line := range strings.SplitAfter(s, "\n") {
		if line == "" && len(follow) == 0 {
			break // This is behind the last line feed.
		}
		if len(follow) > 0 {
			field := follow[0]
			follow = follow[1:]
			if text, ok := strings.CutPrefix(line, " "+field+" "); !ok || !strings.HasSuffix(text, "\n") || !put(fieldOf(element, field), text[:len(text)-1]) {
				return api.Rules{}, i + 1, 5
			}
			continue
		}
		parts := headForm.FindStringSubmatch(line)
		if parts == nil {
			return api.Rules{}, i + 1, 5
		}
		kind := map[string]int{"unit": 1, "weapon": 2, "tech": 3}[parts[1]]
		if kind < before {
			return api.Rules{}, i + 1, 5
		}
		before = kind
		elements := elementsOf(&r, kind)
		elements.Set(reflect.Append(elements, reflect.Zero(elements.Type().Elem())))
		element = elements.Index(elements.Len() - 1)
		element.FieldByName("Name").SetString(parts[2])
		follow = fieldsOf(kind)
	}
	if e := rules.Validate(r); e != api.OK {
		return api.Rules{}, 0, e
	}
	return r, 0, 0
}

// compare checks that Parse returns for a text what it should, and that a text that is accepted is the text of its rules (P10.6).
func compare(t *testing.T, s string) api.Errno {
	t.Helper()
	r, line, e := ruletext.Parse(s)
	want, wrong, f := parsed(s)
	if line != wrong || e != f || !rules.Same(r, want) {
		t.Fatalf("Parse(%.2000q): line %d, error %d, want line %d, error %d", s, line, e, wrong, f)
	}
	if e != api.OK {
		if !reflect.DeepEqual(r, api.Rules{}) {
			t.Fatalf("Parse(%.2000q) returns rules and an error", s)
		}
		return e
	}
	if text, e := ruletext.Print(r); text != s || e != api.OK {
		t.Fatalf("Print of Parse(%.2000q): %.2000q, error %d", s, text, e)
	}
	return e
}

// duelText is the text of rules with an element of each kind.
const duelText = `unit archer
 building no
 depot no
 class 1
 w 0
 h 0
 radius 40
 speed 90
 sight 0
 hp 20
 armor 0
 load 0
 weapon bow
 ore 0
 wood 0
 time 0
 needs base,eyes
 trains -
 researches -
unit base
 building yes
 depot yes
 class 0
 w 2
 h 2
 radius 0
 speed 0
 sight 4
 hp 90
 armor 0
 load 0
 weapon -
 ore 0
 wood 0
 time 0
 needs -
 trains archer
 researches eyes
weapon bow
 range 768
 damage 6
 cool 8
 speed 64
 splash 0
tech eyes
 needs -
 ore 5
 wood 0
 time 0
 unit archer
 stat 4
 amount 2
`

// duelRules returns the rules of duelText.
func duelRules() api.Rules {
	return api.Rules{
		Units: []api.UnitType{
			{Name: "archer", Class: api.CFoot, Radius: 40, Speed: 90, Hp: 20, Weapon: "bow", Needs: []string{"base", "eyes"}},
			{Name: "base", Building: true, Depot: true, W: 2, H: 2, Sight: 4, Hp: 90, Trains: []string{"archer"}, Researches: []string{"eyes"}},
		},
		Weapons: []api.Weapon{{Name: "bow", Range: 768, Damage: 6, Cool: 8, Speed: 64}},
		Techs:   []api.Tech{{Name: "eyes", Ore: 5, Unit: "archer", Stat: api.StSight, Amount: 2}},
	}
}

// P10.4, P10.5, P10.6: a whole text.
func TestText(t *testing.T) {
	if s, e := ruletext.Print(duelRules()); s != duelText || e != api.OK {
		t.Errorf("Print: %q, error %d", s, e)
	}
	if r, line, e := ruletext.Parse(duelText); !rules.Same(r, duelRules()) || line != 0 || e != api.OK {
		t.Errorf("Parse: %v, line %d, error %d", r, line, e)
	}
	if s, e := ruletext.Print(api.Rules{}); s != "" || e != api.OK {
		t.Errorf("Print of rules without elements: %q, error %d", s, e)
	}
	if r, line, e := ruletext.Parse(""); !rules.Same(r, api.Rules{}) || line != 0 || e != api.OK {
		t.Errorf("Parse of the empty text: %v, line %d, error %d", r, line, e)
	}
}

// P10.4: rules that are valid.
func TestPrint(t *testing.T) {
	random := rand.New(rand.NewSource(3))
	all := []api.Rules{full(), duelRules()}
	for range 300 {
		all = append(all, randomRules(random))
	}
	for i, r := range all {
		before := fmt.Sprintf("%#v", r)
		if e := rules.Validate(r); e != api.OK {
			t.Fatalf("rules %d: error %d", i, e)
		}
		s, e := ruletext.Print(r)
		if s != printed(r) || e != api.OK {
			t.Fatalf("rules %d: error %d, text %q", i, e, s)
		}
		if len(s) > api.MaxText {
			t.Errorf("rules %d: %d bytes", i, len(s))
		}
		if x, line, e := ruletext.Parse(s); !rules.Same(x, r) || line != 0 || e != api.OK {
			t.Fatalf("rules %d: Parse of their text: line %d, error %d", i, line, e)
		}
		if fmt.Sprintf("%#v", r) != before {
			t.Errorf("rules %d: Print changes them", i)
		}
	}
}

// P10.4: each error of rules that are not valid.
func TestPrintErrors(t *testing.T) {
	errors := map[api.Errno]bool{}
	for i, change := range []func(r *api.Rules){
		func(r *api.Rules) { *r = odd() },
		func(r *api.Rules) { r.Weapons = make([]api.Weapon, api.MaxWeapons+1) },
		func(r *api.Rules) { r.Weapons[0].Name = "Bow" },
		func(r *api.Rules) { r.Units[0], r.Units[1] = r.Units[1], r.Units[0] },
		func(r *api.Rules) { r.Techs[0].Name = "base" },
		func(r *api.Rules) { r.Units[0].Hp = 0 },
		func(r *api.Rules) { r.Units[0].Weapon = "axe" },
		func(r *api.Rules) { r.Units[1].Trains = []string{"base"} },
		func(r *api.Rules) { r.Techs[0].Needs = []string{"eyes"} },
	} {
		r := duelRules()
		change(&r)
		want := rules.Validate(r)
		errors[want] = true
		if s, e := ruletext.Print(r); s != "" || e != want || e == api.OK {
			t.Errorf("change %d: %q, error %d, want %d", i, s, e, want)
		}
	}
	if len(errors) != 8 {
		t.Errorf("%d errors", len(errors))
	}
}

// weaponText returns the lines of a weapon.
func weaponText(name string) string {
	return "weapon " + name + "\n range 768\n damage 6\n cool 8\n speed 64\n splash 0\n"
}

// P10.5: wrong lines, and rules that are not valid.
func TestParseErrors(t *testing.T) {
	bow := weaponText("bow")
	unit, tech := duelText[:strings.Index(duelText, "unit base")], duelText[strings.Index(duelText, "tech"):]
	for _, c := range []struct {
		s    string
		line int
		e    api.Errno
	}{
		{bow, 0, api.OK}, {"weapon bow\n range 768\n", 3, api.ErrSyntax}, {"weapon bow\n range 768", 2, api.ErrSyntax}, {"weapon bow\n", 2, api.ErrSyntax}, {"weapon bow", 1, api.ErrSyntax},
		{"\n", 1, api.ErrSyntax}, {" ", 1, api.ErrSyntax}, {"x", 1, api.ErrSyntax}, {"weapon\n", 1, api.ErrSyntax}, {"weapon \n", 1, api.ErrSyntax}, {" bow\n", 1, api.ErrSyntax}, {"bow\n", 1, api.ErrSyntax},
		{"weapon  bow\n" + bow[11:], 1, api.ErrSyntax}, {" " + bow, 1, api.ErrSyntax}, {"Weapon bow\n" + bow[11:], 1, api.ErrSyntax}, {"weapon bow \n" + bow[11:], 1, api.ErrSyntax}, {"weapon bow\r\n" + bow[11:], 1, api.ErrSyntax},
		{"weapons bow\n" + bow[11:], 1, api.ErrSyntax}, {"weapon 2bow\n" + bow[11:], 1, api.ErrSyntax}, {"weapon -\n" + bow[11:], 1, api.ErrSyntax}, {weaponText("abcdefghijkl"), 0, api.OK}, {weaponText("abcdefghijklm"), 1, api.ErrSyntax},
		{bow + weaponText("gun"), 0, api.OK}, {bow + bow, 0, api.ErrOrder}, {bow + weaponText("axe"), 0, api.ErrOrder}, {bow + "\n", 7, api.ErrSyntax}, {bow + " ", 7, api.ErrSyntax}, {bow + "x", 7, api.ErrSyntax}, {bow + " splash 0\n", 7, api.ErrSyntax},
		{bow[:len(bow)-1], 6, api.ErrSyntax}, {"weapon bow\n\n" + bow[11:], 2, api.ErrSyntax}, {strings.ReplaceAll(bow, "\n", "\r\n"), 1, api.ErrSyntax}, {strings.Replace(bow, " cool", "cool", 1), 4, api.ErrSyntax},
		{strings.Replace(bow, "cool 8", "cool  8", 1), 4, api.ErrSyntax}, {strings.Replace(bow, "cool 8", "cool 8 ", 1), 4, api.ErrSyntax}, {strings.Replace(bow, "cool 8", "cool", 1), 4, api.ErrSyntax}, {strings.Replace(bow, "cool 8", "cool ", 1), 4, api.ErrSyntax},
		{strings.Replace(bow, "cool 8", "cool 08", 1), 4, api.ErrSyntax}, {strings.Replace(bow, "cool 8", "cool 9223372036854775808", 1), 4, api.ErrSyntax}, {strings.Replace(bow, "cool 8", "cool -1", 1), 0, api.ErrArg},
		{tech, 0, api.ErrNotFound}, {bow + tech, 0, api.ErrNotFound}, {tech + bow, 9, api.ErrSyntax}, {bow + unit, 7, api.ErrSyntax}, {tech + unit, 9, api.ErrSyntax}, {tech + "unit a", 9, api.ErrSyntax}, {duelText + bow, 53, api.ErrSyntax},
		{strings.Replace(duelText, "base,eyes", "base,", 1), 17, api.ErrSyntax}, {strings.Replace(duelText, "depot yes", "depot true", 1), 22, api.ErrSyntax}, {strings.Replace(duelText, "weapon bow", "weapon ", 1), 13, api.ErrSyntax},
		{strings.Replace(duelText, "base,eyes", "eyes,base", 1), 0, api.ErrOrder}, {strings.Replace(duelText, "base,eyes", "a,b,c,d,e", 1), 0, api.ErrLimit}, {strings.Replace(duelText, "tech eyes", "tech base", 1), 0, api.ErrDuplicate},
		{strings.Replace(duelText, " trains archer", " trains base", 1), 0, api.ErrType}, {strings.Replace(duelText, "tech eyes\n needs -", "tech eyes\n needs eyes", 1), 0, api.ErrConflict},
	} {
		if _, line, e := ruletext.Parse(c.s); line != c.line || e != c.e {
			t.Errorf("Parse(%q): line %d, error %d, want line %d, error %d", c.s, line, e, c.line, c.e)
		}
		compare(t, c.s)
	}
}

// P10.5: texts as long as may be, and longer ones.
func TestParseLimit(t *testing.T) {
	fill := func(s string, size int) string { return s + strings.Repeat("x", size-len(s)) }
	for _, c := range []struct {
		s    string
		line int
		e    api.Errno
	}{
		{fill(duelText, api.MaxText-1), 53, api.ErrSyntax}, {fill(duelText, api.MaxText), 53, api.ErrSyntax}, {fill(duelText, api.MaxText+1), 0, api.ErrLimit}, {fill("", api.MaxText), 1, api.ErrSyntax},
		{fill("", api.MaxText+1), 0, api.ErrLimit}, {strings.Repeat("\n", api.MaxText+1), 0, api.ErrLimit}, {strings.Repeat("\n", 5*api.MaxText), 0, api.ErrLimit}, {fill("", 32768), 1, api.ErrSyntax}, {fill("", 32769), 0, api.ErrLimit},
	} {
		if _, line, e := ruletext.Parse(c.s); line != c.line || e != c.e {
			t.Errorf("Parse of %d bytes: line %d, error %d, want line %d, error %d", len(c.s), line, e, c.line, c.e)
		}
	}
	many := ""
	for i := range api.MaxWeapons + 1 {
		if e := compare(t, many); e != api.OK {
			t.Errorf("%d weapons: error %d", i, e)
		}
		many += weaponText(fmt.Sprintf("w%d", i))
	}
	if e := compare(t, many); e != api.ErrLimit {
		t.Errorf("nine weapons: error %d", e)
	}
	for len(many) < api.MaxText-100 {
		many += weaponText("z")
	}
	compare(t, many)
	compare(t, many+"weapon")
	compare(t, strings.Replace(duelText, "base,eyes", strings.Repeat("a,", 15000)+"a", 1))
	compare(t, strings.Replace(duelText, "base,eyes", strings.Repeat("a,", 15000), 1))
}

// P10.5, P10.6: texts that end too early, and texts in which a byte is missing, there twice, or another one.
func TestParseBytes(t *testing.T) {
	accepted := 0
	for i := range len(duelText) {
		changed := []string{duelText[:i], duelText[i:], duelText[:i] + duelText[i+1:], duelText[:i] + duelText[i:i+1] + duelText[i:]}
		for _, c := range " \n-,_azyn0179\x00\x80A+" {
			changed = append(changed, duelText[:i]+string(c)+duelText[i+1:], duelText[:i]+string(c)+duelText[i:])
		}
		for _, s := range changed {
			if compare(t, s) == api.OK {
				accepted++
			}
		}
	}
	if accepted < 100 {
		t.Errorf("only %d texts were accepted", accepted)
	}
}

// P10.5, P10.6: texts in which lines are missing, there twice, exchanged, or replaced.
func TestParseLines(t *testing.T) {
	lines := strings.SplitAfter(duelText, "\n")
	lines = lines[:len(lines)-1]
	for i := range lines {
		compare(t, strings.Join(slices.Delete(slices.Clone(lines), i, i+1), ""))
		for j := range lines {
			compare(t, strings.Join(slices.Insert(slices.Clone(lines), j, lines[i]), ""))
			other := slices.Clone(lines)
			other[i], other[j] = other[j], other[i]
			compare(t, strings.Join(other, ""))
			other[i] = other[j]
			compare(t, strings.Join(other, ""))
		}
	}
}

// P10.5: values of all sorts in the line of each field.
func TestParseValues(t *testing.T) {
	lines := strings.SplitAfter(duelText, "\n")
	for i, line := range lines {
		if !strings.HasPrefix(line, " ") {
			continue
		}
		field := strings.Fields(line)[0]
		for _, value := range values() {
			other := slices.Clone(lines)
			other[i] = " " + field + " " + value + "\n"
			compare(t, strings.Join(other, ""))
		}
	}
}

// P10.5: the elements of all kinds in any order.
func TestParseOrder(t *testing.T) {
	r := duelRules()
	var parts []string
	for _, one := range []api.Rules{{Units: r.Units[:1]}, {Units: r.Units[1:]}, {Weapons: r.Weapons}, {Techs: r.Techs}} {
		parts = append(parts, printed(one))
	}
	random := rand.New(rand.NewSource(4))
	for range 2000 {
		s := ""
		for _, i := range random.Perm(len(parts))[:random.Intn(len(parts)+1)] {
			s += parts[i]
		}
		compare(t, s)
	}
	for range 2000 {
		s := ""
		for range random.Intn(5) {
			s += parts[random.Intn(len(parts))]
		}
		compare(t, s)
	}
}

// P10.6: random rules, and their texts with lines from the texts of others.
func TestParseRandom(t *testing.T) {
	random := rand.New(rand.NewSource(5))
	pool := strings.SplitAfter(duelText, "\n")
	for range 500 {
		s := printed(randomRules(random))
		if e := compare(t, s); e != api.OK {
			t.Fatalf("error %d", e)
		}
		lines := strings.SplitAfter(s, "\n")
		i := random.Intn(len(lines))
		old := lines[i]
		lines[i] = pool[random.Intn(len(pool))]
		compare(t, strings.Join(lines, ""))
		pool = append(pool, old)
	}
}

// The lists of what Parse returns have memory of their own.
func TestParseMemory(t *testing.T) {
	r, _, _ := ruletext.Parse(duelText)
	r.Units[0].Needs[1] = "changed"
	_ = append(r.Units[0].Needs, "changed")
	_ = append(r.Units[1].Trains, "changed")
	want := duelRules()
	want.Units[0].Needs[1] = "changed"
	if !rules.Same(r, want) {
		t.Errorf("%v", r)
	}
	if x, _, _ := ruletext.Parse(duelText); !rules.Same(x, duelRules()) {
		t.Errorf("%v", x)
	}
}
