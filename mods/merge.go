package mods

import (
	"slices"

	"skirmish/api"
)

// pair is what two lists do at a place at which one of them has an edit. The edit of a list that has none there replaces Old by Old.
type pair struct{ a, b api.Edit }

// pairs returns what two lists with strictly ascending places do, with strictly ascending places.
func pairs(a, b []api.Edit) []pair {
	var list []pair
	for len(a) > 0 || len(b) > 0 {
		switch {
		case len(b) == 0 || len(a) > 0 && comparePlaces(a[0], b[0]) < 0:
			list = append(list, pair{a[0], idle(a[0])})
			a = a[1:]
		case len(a) == 0 || comparePlaces(a[0], b[0]) > 0:
			list = append(list, pair{idle(b[0]), b[0]})
			b = b[1:]
		default:
			list = append(list, pair{a[0], b[0]})
			a, b = a[1:], b[1:]
		}
	}
	return list
}

// idle returns x without its effect.
func idle(x api.Edit) api.Edit {
	x.New = x.Old
	return x
}

// differs tells whether both lists have an edit at the place, and not the same one. They have the same Old, because both can be applied to the same rules.
func (p pair) differs() bool {
	return p.a != idle(p.a) && p.b != idle(p.b) && p.a != p.b
}

// edit returns the edit at the place, if both lists do not have different ones there.
func (p pair) edit() api.Edit {
	if p.a != idle(p.a) {
		return p.a
	}
	return p.b
}

// conflict returns the conflict at the place.
func (p pair) conflict() api.Conflict {
	return api.Conflict{Kind: p.a.Kind, Name: p.a.Name, Field: p.a.Field, Old: p.a.Old, A: p.a.New, B: p.b.New}
}

// overrules tells whether a removes the element of an edit, and b changes this element in some field.
func overrules(a, b []api.Edit, at api.Edit) bool {
	return slices.Contains(a, removal(at.Kind, at.Name)) && slices.ContainsFunc(b, func(x api.Edit) bool {
		return x.Kind == at.Kind && x.Name == at.Name && x.Field != ""
	})
}
