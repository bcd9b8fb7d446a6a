package mods_test

import (
	"fmt"
	"math/rand"
	"slices"
	"strings"
	"testing"

	"skirmish/api"
	"skirmish/mods"
	"skirmish/ruletext"
)

// editAt returns the edit of a list at the place of another one, and whether there is one.
func editAt(l []api.Edit, at api.Edit) (api.Edit, bool) {
	for _, x := range l {
		if x.Kind == at.Kind && x.Name == at.Name && x.Field == at.Field {
			return x, true
		}
	}
	return api.Edit{}, false
}

// touches tells whether a list has an edit of the element of another one that removes it, or one that changes it in some field.
func touches(l []api.Edit, of api.Edit, removing bool) bool {
	for _, x := range l {
		if x.Kind == of.Kind && x.Name == of.Name && (removing && x.Field == "" && x.New == "" || !removing && x.Field != "") {
			return true
		}
	}
	return false
}

// places returns an edit for each place of a and b, ascending.
func places(a, b []api.Edit) []api.Edit {
	var l []api.Edit
	for _, x := range slices.Concat(a, b) {
		if _, ok := editAt(l, x); !ok {
			l = append(l, x)
		}
	}
	slices.SortFunc(l, func(x, y api.Edit) int {
		if isAhead(x, y) {
			return -1
		}
		return 1
	})
	return l
}

// merged returns by the words of the chapter what Merge should return.
func merged(base api.Rules, a, b []api.Edit) ([]api.Edit, []api.Conflict, api.Errno) {
	if _, e := applied(base, a); e != 0 {
		return nil, nil, e
	}
	if _, e := applied(base, b); e != 0 {
		return nil, nil, e
	}
	var l []api.Edit
	var conflicts []api.Conflict
	for _, at := range places(a, b) {
		x, inA := editAt(a, at)
		y, inB := editAt(b, at)
		contested := inA && inB && x.New != y.New || touches(a, at, true) && touches(b, at, false) || touches(b, at, true) && touches(a, at, false)
		if !contested {
			l = append(l, at)
			continue
		}
		c := api.Conflict{Kind: at.Kind, Name: at.Name, Field: at.Field, Old: at.Old, A: at.Old, B: at.Old}
		if inA {
			c.A = x.New
		}
		if inB {
			c.B = y.New
		}
		conflicts = append(conflicts, c)
	}
	return l, conflicts, 0
}

// resolved returns by the words of the chapter what Resolve should return.
func resolved(l []api.Edit, c []api.Conflict, first bool) []api.Edit {
	all := slices.Clone(l)
	for _, x := range c {
		value := map[bool]string{true: x.A, false: x.B}[first]
		if value != x.Old {
			all = append(all, api.Edit{Kind: x.Kind, Name: x.Name, Field: x.Field, Old: x.Old, New: value})
		}
	}
	// Insertion leaves edits with the same place in their order.
	var ordered []api.Edit
	for _, x := range all {
		at := len(ordered)
		for at > 0 && isAhead(x, ordered[at-1]) {
			at--
		}
		ordered = slices.Insert(ordered, at, x)
	}
	return ordered
}

// checkMerge compares Merge with the words of the chapter and returns its results.
func checkMerge(t *testing.T, base api.Rules, a, b []api.Edit) ([]api.Edit, []api.Conflict, api.Errno) {
	t.Helper()
	before := fmt.Sprintf("%#v %#v %#v", base, a, b)
	l, c, e := mods.Merge(base, a, b)
	want, conflicts, f := merged(base, a, b)
	if e != f || !slices.Equal(l, want) || !slices.Equal(c, conflicts) {
		t.Fatalf("Merge(%v, %v, %v) = %v, %v, error %d, want %v, %v, error %d", base, a, b, l, c, e, want, conflicts, f)
	}
	if fmt.Sprintf("%#v %#v %#v", base, a, b) != before {
		t.Fatalf("Merge(%v, %v, %v) changes its arguments", base, a, b)
	}
	return l, c, e
}

// bowEdit returns an edit of the weapon bow.
func bowEdit(field, old, value string) api.Edit {
	return api.Edit{Kind: 2, Name: "bow", Field: field, Old: old, New: value}
}

// unarmed returns the rules of the examples without what uses the weapon bow, so that it can be removed.
func unarmed() api.Rules {
	r := duel()
	r.Units[0].Weapon = ""
	return r
}

// P11.3, P11.4: the examples, and more cases of each sort.
func TestMergeExamples(t *testing.T) {
	damage7, damage8, reach := bowEdit("damage", "6", "7"), bowEdit("damage", "6", "8"), bowEdit("range", "768", "800")
	noBow, gun := bowEdit("", "yes", ""), api.Edit{Kind: 2, Name: "gun", New: "yes"}
	shot3, shot4, wide := api.Edit{Kind: 2, Name: "gun", Field: "damage", Old: "0", New: "3"}, api.Edit{Kind: 2, Name: "gun", Field: "damage", Old: "0", New: "4"}, api.Edit{Kind: 2, Name: "gun", Field: "splash", Old: "0", New: "9"}
	axe, noAxe := api.Edit{Kind: 2, Name: "axe", Field: "damage", Old: "4", New: "5"}, api.Edit{Kind: 2, Name: "axe", Old: "yes"}
	conflict := func(field, old, a, b string) api.Conflict {
		return api.Conflict{Kind: 2, Name: "bow", Field: field, Old: old, A: a, B: b}
	}
	for i, c := range []struct {
		a, b, l   []api.Edit
		conflicts []api.Conflict
	}{
		{nil, nil, nil, nil},
		{[]api.Edit{damage7}, nil, []api.Edit{damage7}, nil},
		{[]api.Edit{damage7}, []api.Edit{reach}, []api.Edit{damage7, reach}, nil},
		{[]api.Edit{damage7}, []api.Edit{damage8}, nil, []api.Conflict{conflict("damage", "6", "7", "8")}},
		{[]api.Edit{damage7}, []api.Edit{damage7}, []api.Edit{damage7}, nil},
		{[]api.Edit{damage7}, []api.Edit{noBow}, nil, []api.Conflict{conflict("", "yes", "yes", ""), conflict("damage", "6", "7", "6")}},
		{[]api.Edit{noBow}, []api.Edit{damage7, reach}, nil, []api.Conflict{conflict("", "yes", "", "yes"), conflict("damage", "6", "6", "7"), conflict("range", "768", "768", "800")}},
		{[]api.Edit{noBow}, []api.Edit{noBow}, []api.Edit{noBow}, nil},
		{[]api.Edit{noBow}, []api.Edit{axe}, []api.Edit{axe, noBow}, nil},
		{[]api.Edit{noAxe, damage7}, []api.Edit{reach}, []api.Edit{noAxe, damage7, reach}, nil},
		{[]api.Edit{noAxe, damage7}, []api.Edit{noAxe, damage8}, []api.Edit{noAxe}, []api.Conflict{conflict("damage", "6", "7", "8")}},
		{[]api.Edit{axe, damage7, reach}, []api.Edit{damage8, reach, gun}, []api.Edit{axe, reach, gun}, []api.Conflict{conflict("damage", "6", "7", "8")}},
		{[]api.Edit{gun, shot3}, []api.Edit{gun, wide}, []api.Edit{gun, shot3, wide}, nil},
		{[]api.Edit{gun, shot3}, []api.Edit{gun, shot4, wide}, []api.Edit{gun, wide}, []api.Conflict{{Kind: 2, Name: "gun", Field: "damage", Old: "0", A: "3", B: "4"}}},
		{[]api.Edit{gun, shot3}, nil, []api.Edit{gun, shot3}, nil},
		{[]api.Edit{gun, shot3}, []api.Edit{noBow}, []api.Edit{noBow, gun, shot3}, nil},
	} {
		l, conflicts, e := checkMerge(t, unarmed(), c.a, c.b)
		if !slices.Equal(l, c.l) || !slices.Equal(conflicts, c.conflicts) || e != api.OK {
			t.Errorf("case %d: Merge = %v, %v, error %d", i, l, conflicts, e)
		}
	}
	if l := mods.Resolve(nil, []api.Conflict{conflict("damage", "6", "7", "8")}, false); !slices.Equal(l, []api.Edit{damage8}) {
		t.Errorf("Resolve for the second side = %v", l)
	}
	removed := []api.Conflict{conflict("", "yes", "yes", ""), conflict("damage", "6", "7", "6")}
	if l := mods.Resolve([]api.Edit{gun}, removed, true); !slices.Equal(l, []api.Edit{damage7, gun}) {
		t.Errorf("Resolve for the first side = %v", l)
	}
	if l := mods.Resolve([]api.Edit{gun}, removed, false); !slices.Equal(l, []api.Edit{noBow, gun}) {
		t.Errorf("Resolve for the second side = %v", l)
	}
}

// P11.3: an element of the same name and another kind is another element.
func TestMergeKinds(t *testing.T) {
	r := unarmed()
	r.Weapons = append([]api.Weapon{{Name: "archer"}}, r.Weapons...)
	noArcher := api.Edit{Kind: 2, Name: "archer", Old: "yes"}
	archer := api.Edit{Kind: 1, Name: "archer", Field: "speed", Old: "64", New: "80"}
	l, c, e := checkMerge(t, r, []api.Edit{noArcher}, []api.Edit{archer})
	if !slices.Equal(l, []api.Edit{archer, noArcher}) || len(c) != 0 || e != api.OK {
		t.Errorf("Merge = %v, %v, error %d", l, c, e)
	}
}

// P11.3: the errors of the first list come first, and no error is that of the merged edits.
func TestMergeErrors(t *testing.T) {
	good, bad, worse := []api.Edit{bowEdit("damage", "6", "7")}, []api.Edit{bowEdit("damage", "5", "7")}, []api.Edit{bowEdit("damage", "6", "x")}
	for i, c := range []struct {
		base api.Rules
		a, b []api.Edit
		want api.Errno
	}{
		{duel(), good, good, api.OK}, {duel(), good, bad, api.ErrConflict}, {duel(), bad, good, api.ErrConflict}, {duel(), worse, bad, api.ErrSyntax}, {duel(), bad, worse, api.ErrConflict}, {duel(), good, worse, api.ErrSyntax},
		{duel(), nil, []api.Edit{{Kind: 9}}, api.ErrArg}, {duel(), slices.Concat(good, good), nil, api.ErrOrder}, {duel(), nil, slices.Concat(good, good), api.ErrOrder}, {duel(), nil, []api.Edit{bowEdit("", "yes", "")}, api.ErrNotFound},
		{api.Rules{Weapons: []api.Weapon{{}}}, nil, nil, api.ErrArg}, {api.Rules{Weapons: []api.Weapon{{}}}, worse, bad, api.ErrArg},
		// One list removes the weapon that the other one begins to use.
		{duel(), []api.Edit{{Kind: 2, Name: "axe", Old: "yes"}}, []api.Edit{{Kind: 1, Name: "base", Field: "weapon", Old: "-", New: "axe"}}, api.OK},
	} {
		if _, _, e := checkMerge(t, c.base, c.a, c.b); e != c.want {
			t.Errorf("case %d: error %d, want %d", i, e, c.want)
		}
	}
}

// P11.3, P11.6: lists of all sorts.
func TestMerge(t *testing.T) {
	rnd := rand.New(rand.NewSource(6))
	seen := map[string]int{}
	for range 500 {
		base := someRules(t, rnd)
		a, b := variation(t, rnd, base), variation(t, rnd, base)
		if rnd.Intn(8) == 0 {
			b = spoiled(rnd, a)
		}
		l, c, e := checkMerge(t, base, a, b)
		seen[fmt.Sprint("error ", e != api.OK)]++
		checkSymmetry(t, base, a, b, l, c, e)
		if e != api.OK {
			continue
		}
		checkSides(t, a, b, l, c)
		seen[fmt.Sprint("conflicts ", len(c) > 0)]++
		seen[fmt.Sprint("edits ", len(l) > 0)]++
		for _, x := range c {
			seen[fmt.Sprint("place ", x.Field == "", x.A == x.Old, x.B == x.Old)]++
		}
	}
	for _, s := range []string{"error true", "error false", "conflicts true", "conflicts false", "edits true", "edits false", "place true false true", "place true true false", "place false false false", "place false true false", "place false false true"} {
		if seen[s] < 10 {
			t.Errorf("%q occurs only %d times: %v", s, seen[s], seen)
		}
	}
}

// variation returns edits that can be applied to base: few of them, or all that lead to other rules.
func variation(t *testing.T, rnd *rand.Rand, base api.Rules) []api.Edit {
	all := difference(base, someRules(t, rnd))
	if rnd.Intn(3) == 0 || len(all) == 0 {
		return all
	}
	var few []api.Edit
	for range rnd.Intn(12) {
		more := places(few, []api.Edit{all[rnd.Intn(len(all))]})
		if _, e := applied(base, more); e == api.OK {
			few = more
		}
	}
	return few
}

// checkSymmetry checks P11.6 for the results of Merge.
func checkSymmetry(t *testing.T, base api.Rules, a, b, l []api.Edit, c []api.Conflict, e api.Errno) {
	t.Helper()
	other, conflicts, f := mods.Merge(base, b, a)
	for i := range conflicts {
		conflicts[i].A, conflicts[i].B = conflicts[i].B, conflicts[i].A
	}
	if !slices.Equal(l, other) || !slices.Equal(c, conflicts) || (e == api.OK) != (f == api.OK) {
		t.Fatalf("Merge(%v, %v, %v) is not symmetrical", base, a, b)
	}
	if e != api.OK || len(c) > 0 {
		return
	}
	for _, x := range slices.Concat(a, b) {
		if !slices.Contains(l, x) {
			t.Fatalf("Merge(%v, %v, %v) lacks %v", base, a, b, x)
		}
	}
	for _, x := range l {
		if !slices.Contains(a, x) && !slices.Contains(b, x) {
			t.Fatalf("Merge(%v, %v, %v) adds %v", base, a, b, x)
		}
	}
}

// checkSides checks P11.7 for the results of Merge.
func checkSides(t *testing.T, a, b, l []api.Edit, c []api.Conflict) {
	t.Helper()
	for _, first := range []bool{true, false} {
		own, other := a, b
		if !first {
			own, other = b, a
		}
		var want []api.Edit
		for _, x := range slices.Concat(own, other) {
			contested := slices.ContainsFunc(c, func(y api.Conflict) bool { return x.Kind == y.Kind && x.Name == y.Name && x.Field == y.Field })
			if len(want) < len(own) || !contested && !slices.Contains(own, x) {
				want = append(want, x)
			}
		}
		want = resolved(want, nil, true)
		if list := mods.Resolve(l, c, first); !slices.Equal(list, want) {
			t.Fatalf("Resolve(%v, %v, %v) = %v, want %v", l, c, first, list, want)
		}
	}
}

// P11.4: lists of all sorts, which need not be those of Merge.
func TestResolve(t *testing.T) {
	rnd := rand.New(rand.NewSource(4))
	text := func(list ...string) string { return list[rnd.Intn(len(list))] }
	for range 1500 {
		var l []api.Edit
		for range rnd.Intn(30) {
			l = append(l, api.Edit{Kind: rnd.Intn(4) - 1, Name: text("", "a", "a\x00", "B", "\xff", "é"), Field: text("", "hp", "w", "W", "\x80"), Old: text("", "1", "yes"), New: fmt.Sprint(rnd.Intn(5))})
		}
		var c []api.Conflict
		for range rnd.Intn(30) {
			c = append(c, api.Conflict{Kind: rnd.Intn(4) - 1, Name: text("", "a", "a\x00", "B", "\xff", "é"), Field: text("", "hp", "w", "W", "\x80"), Old: text("", "1", "yes"), A: text("", "1", "2", "yes"), B: text("", "1", "2", "yes")})
		}
		before := fmt.Sprintf("%#v %#v", l, c)
		for _, first := range []bool{true, false} {
			if list := mods.Resolve(l, c, first); !slices.Equal(list, resolved(l, c, first)) {
				t.Fatalf("Resolve(%v, %v, %v) = %v, want %v", l, c, first, list, resolved(l, c, first))
			}
		}
		if fmt.Sprintf("%#v %#v", l, c) != before {
			t.Fatalf("Resolve(%v, %v) changes its arguments", l, c)
		}
	}
	if list := mods.Resolve(nil, nil, true); len(list) != 0 {
		t.Errorf("Resolve of nothing = %v", list)
	}
}

// P11.4: long lists.
func TestResolveLong(t *testing.T) {
	var l []api.Edit
	var c []api.Conflict
	for i := range 50000 {
		name := strings.Repeat("a", i%7) + fmt.Sprint(99999-i)
		l = append(l, api.Edit{Kind: i % 3, Name: name, New: "x"})
		c = append(c, api.Conflict{Kind: i % 3, Name: name, A: "y", B: ""})
	}
	list := mods.Resolve(l, c, true)
	if len(list) != 100000 || len(mods.Resolve(l, c, false)) != 50000 {
		t.Fatalf("%d edits", len(list))
	}
	for i := 0; i < len(list); i += 2 {
		if list[i].New != "x" || list[i+1].New != "y" || list[i].Name != list[i+1].Name || i > 0 && !isAhead(list[i-1], list[i]) {
			t.Fatalf("%v and %v", list[i], list[i+1])
		}
	}
}

// P11.3, P11.4: results share no memory with arguments.
func TestMergeMemory(t *testing.T) {
	mark := api.Edit{Kind: 7, Name: "room"}
	room := func(l ...api.Edit) []api.Edit { return append(l, mark, mark)[:len(l)] }
	a, b := room(bowEdit("damage", "6", "7")), room(bowEdit("damage", "6", "8"), bowEdit("range", "768", "800"))
	l, c, _ := mods.Merge(duel(), a, b)
	l[0].Name, c[0].Name = "ink", "ink"
	_, _ = append(l, api.Edit{}), append(c, api.Conflict{})
	if a[0] != bowEdit("damage", "6", "7") || b[1] != bowEdit("range", "768", "800") || a[:2][1] != mark || b[:3][2] != mark {
		t.Errorf("Merge shares memory: %v, %v", a[:2], b[:3])
	}
	for _, side := range []bool{true, false} {
		for _, conflicts := range [][]api.Conflict{nil, {{Kind: 2, Name: "bow", Old: "yes", A: "yes", B: "no"}, {Kind: 1, Name: "bow", Old: "yes", A: "", B: ""}}} {
			list := mods.Resolve(b, conflicts, side)
			for i := range list {
				list[i].Name = "ink"
			}
			if b[0] != bowEdit("damage", "6", "8") || b[1] != bowEdit("range", "768", "800") || b[:3][2] != mark {
				t.Errorf("Resolve shares memory: %v", b[:3])
			}
		}
	}
}

// P11.1: the fields that the edits of the tests name are those of layer 10.
func TestFieldsOfEdits(t *testing.T) {
	for kind := -1; kind <= 5; kind++ {
		for _, field := range slices.Concat(ruletext.Fields(1), ruletext.Fields(2), ruletext.Fields(3), []string{"name", "Hp", "hp ", "-", "kind"}) {
			x := api.Edit{Kind: kind, Name: "nobody", Field: field, Old: "0", New: "1"}
			want := api.ErrArg
			if slices.Contains(ruletext.Fields(kind), field) {
				want = api.ErrNotFound
			}
			if e := checkApply(t, duel(), []api.Edit{x}); e != want {
				t.Errorf("Apply of %v: error %d, want %d", x, e, want)
			}
		}
	}
}
