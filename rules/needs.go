package rules

import (
	"slices"
	"strings"

	"skirmish/api"
)

// item is a unit type or a technology, of which only the name and what it needs matter.
type item struct {
	name  string
	needs []string
}

// items returns the unit types and technologies of r.
func items(r api.Rules) []item {
	var list []item
	for _, u := range r.Units {
		list = append(list, item{u.Name, u.Needs})
	}
	for _, t := range r.Techs {
		list = append(list, item{t.Name, t.Needs})
	}
	return list
}

// available returns the names of the unit types and technologies in the order in which they can become available. Those that never can are missing.
func available(r api.Rules) []string {
	waiting := items(r)
	slices.SortFunc(waiting, func(a, b item) int { return strings.Compare(a.name, b.name) })
	var names []string
	for {
		i := slices.IndexFunc(waiting, func(x item) bool { return contains(names, x.needs) })
		if i < 0 {
			return names
		}
		names = append(names, waiting[i].name)
		waiting = slices.Delete(waiting, i, i+1)
	}
}

// contains tells whether all of some names are in a list.
func contains(list, names []string) bool {
	return !slices.ContainsFunc(names, func(name string) bool { return !slices.Contains(list, name) })
}
