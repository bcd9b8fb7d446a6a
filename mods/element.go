package mods

import (
	"cmp"
	"slices"
	"strings"

	"skirmish/api"
	"skirmish/rules"
	"skirmish/ruletext"
)

// The kinds of elements.
const (
	unitKind   = 1
	weaponKind = 2
	techKind   = 3
)

// element is an element of rules, alone in rules of its own. So the cost of an edit does not depend on the number of elements.
type element struct {
	kind  int
	name  string
	alone api.Rules
}

// blank returns an element all of whose fields are zero, except for its name.
func blank(kind int, name string) element {
	x := element{kind: kind, name: name}
	switch kind {
	case unitKind:
		x.alone.Units = []api.UnitType{{Name: name}}
	case weaponKind:
		x.alone.Weapons = []api.Weapon{{Name: name}}
	case techKind:
		x.alone.Techs = []api.Tech{{Name: name}}
	}
	return x
}

// split returns the elements of valid rules, ascending by kind and name. They share no memory with r.
func split(r api.Rules) []element {
	var list []element
	for _, x := range r.Units {
		u, _ := rules.Unit(r, x.Name)
		list = append(list, element{unitKind, u.Name, api.Rules{Units: []api.UnitType{u}}})
	}
	for _, w := range r.Weapons {
		list = append(list, element{weaponKind, w.Name, api.Rules{Weapons: []api.Weapon{w}}})
	}
	for _, x := range r.Techs {
		t, _ := rules.Tech(r, x.Name)
		list = append(list, element{techKind, t.Name, api.Rules{Techs: []api.Tech{t}}})
	}
	return list
}

// join returns the rules that consist of elements.
func join(list []element) api.Rules {
	var r api.Rules
	for _, x := range list {
		r.Units = append(r.Units, x.alone.Units...)
		r.Weapons = append(r.Weapons, x.alone.Weapons...)
		r.Techs = append(r.Techs, x.alone.Techs...)
	}
	return r
}

// find returns the index of an element in an ascending list and true; the index where it belongs and false if it is not there.
func find(list []element, kind int, name string) (int, bool) {
	return slices.BinarySearchFunc(list, name, func(x element, name string) int {
		return cmp.Or(cmp.Compare(x.kind, kind), strings.Compare(x.name, name))
	})
}

// value returns the text of the value of a field.
func (x element) value(field string) string {
	text, _ := ruletext.Get(x.alone, x.kind, x.name, field)
	return text
}

// change carries out an edit of a field.
func (x *element) change(by api.Edit) api.Errno {
	if x.value(by.Field) != by.Old {
		return api.ErrConflict
	}
	r, e := ruletext.Set(x.alone, x.kind, x.name, by.Field, by.New)
	x.alone = r
	return e
}

// changes returns the edits that make the fields of an element those of another one.
func changes(from, to element) []api.Edit {
	var l []api.Edit
	for _, field := range ruletext.Fields(to.kind) {
		if old, value := from.value(field), to.value(field); old != value {
			l = append(l, api.Edit{Kind: to.kind, Name: to.name, Field: field, Old: old, New: value})
		}
	}
	return l
}
