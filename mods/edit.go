package mods

import (
	"cmp"
	"slices"
	"strings"

	"skirmish/api"
	"skirmish/ruletext"
)

// there is the value of the field "" of an element that is there. Without the element it is empty.
const there = "yes"

// addition returns the edit that adds an element.
func addition(kind int, name string) api.Edit {
	return api.Edit{Kind: kind, Name: name, New: there}
}

// removal returns the edit that removes an element.
func removal(kind int, name string) api.Edit {
	return api.Edit{Kind: kind, Name: name, Old: there}
}

// comparePlaces tells whether the place of a is ahead of that of b (less than 0), the same (0), or behind it.
func comparePlaces(a, b api.Edit) int {
	return cmp.Or(cmp.Compare(a.Kind, b.Kind), strings.Compare(a.Name, b.Name), strings.Compare(a.Field, b.Field))
}

// ascend tells whether the places of edits are strictly ascending.
func ascend(l []api.Edit) bool {
	for i := range len(l) - 1 {
		if comparePlaces(l[i], l[i+1]) >= 0 {
			return false
		}
	}
	return true
}

// hasForm tells whether x has the form of an edit.
func hasForm(x api.Edit) bool {
	if x.Kind < unitKind || x.Kind > techKind {
		return false
	}
	if x.Field == "" {
		return x == addition(x.Kind, x.Name) || x == removal(x.Kind, x.Name)
	}
	return x.Old != x.New && slices.Contains(ruletext.Fields(x.Kind), x.Field)
}

// carryOut returns the elements after an edit. The list given is used up.
func carryOut(x api.Edit, list []element) ([]element, api.Errno) {
	if !hasForm(x) {
		return nil, api.ErrArg
	}
	i, ok := find(list, x.Kind, x.Name)
	switch x {
	case addition(x.Kind, x.Name):
		if ok {
			return nil, api.ErrConflict
		}
		return slices.Insert(list, i, blank(x.Kind, x.Name)), api.OK
	case removal(x.Kind, x.Name):
		if !ok {
			return nil, api.ErrNotFound
		}
		return slices.Delete(list, i, i+1), api.OK
	}
	if !ok {
		return nil, api.ErrNotFound
	}
	return list, list[i].change(x)
}
