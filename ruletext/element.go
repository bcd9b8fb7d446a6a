package ruletext

import (
	"skirmish/api"
)

// The kinds of elements.
const (
	unitKind   = 1
	weaponKind = 2
	techKind   = 3
)

// element gives access to the fields of an element by their names: each field is in the map for the sort of its value.
type element struct {
	sorts   map[string]int
	numbers map[string]*int
	flags   map[string]*bool
	names   map[string]*string
	lists   map[string]*[]string
}

// names returns the names of the elements of a kind.
func names(r api.Rules, kind int) []string {
	var list []string
	switch kind {
	case unitKind:
		for _, u := range r.Units {
			list = append(list, u.Name)
		}
	case weaponKind:
		for _, w := range r.Weapons {
			list = append(list, w.Name)
		}
	case techKind:
		for _, t := range r.Techs {
			list = append(list, t.Name)
		}
	}
	return list
}

// elementAt returns the element of a kind with an index. It shares memory with r.
func elementAt(r api.Rules, kind, i int) element {
	var x element
	switch kind {
	case unitKind:
		x = unitElement(&r.Units[i])
	case weaponKind:
		x = weaponElement(&r.Weapons[i])
	case techKind:
		x = techElement(&r.Techs[i])
	}
	x.sorts = sorts()
	return x
}

// unitElement gives access to a unit type.
func unitElement(u *api.UnitType) element {
	return element{
		numbers: map[string]*int{
			"class": &u.Class, "w": &u.W, "h": &u.H, "radius": &u.Radius, "speed": &u.Speed, "sight": &u.Sight,
			"hp": &u.Hp, "armor": &u.Armor, "load": &u.Load, "ore": &u.Ore, "wood": &u.Wood, "time": &u.Time,
		},
		flags: map[string]*bool{"building": &u.Building, "depot": &u.Depot},
		names: map[string]*string{"weapon": &u.Weapon},
		lists: map[string]*[]string{"needs": &u.Needs, "trains": &u.Trains, "researches": &u.Researches},
	}
}

// weaponElement gives access to a weapon.
func weaponElement(w *api.Weapon) element {
	return element{numbers: map[string]*int{"range": &w.Range, "damage": &w.Damage, "cool": &w.Cool, "speed": &w.Speed, "splash": &w.Splash}}
}

// techElement gives access to a technology.
func techElement(t *api.Tech) element {
	return element{
		numbers: map[string]*int{"ore": &t.Ore, "wood": &t.Wood, "time": &t.Time, "stat": &t.Stat, "amount": &t.Amount},
		names:   map[string]*string{"unit": &t.Unit},
		lists:   map[string]*[]string{"needs": &t.Needs},
	}
}
