package rules

import (
	"slices"

	"skirmish/api"
)

// ranged is a number and its range; both ends are included.
type ranged struct{ number, least, most int }

// Validate returns OK if r is valid, and otherwise the first error that it has.
func Validate(r api.Rules) api.Errno {
	switch {
	case isTooLarge(r):
		return api.ErrLimit
	case hasBadName(r):
		return api.ErrName
	case !isAscending(r):
		return api.ErrOrder
	case hasSharedName(r):
		return api.ErrDuplicate
	case hasBadNumber(r):
		return api.ErrArg
	case hasUnknownName(r):
		return api.ErrNotFound
	case hasWrongType(r):
		return api.ErrType
	case hasCycle(r):
		return api.ErrConflict
	}
	return api.OK
}

// isTooLarge tells whether a list of r has too many elements.
func isTooLarge(r api.Rules) bool {
	if len(r.Units) > api.MaxTypes || len(r.Weapons) > api.MaxWeapons || len(r.Techs) > api.MaxTechs {
		return true
	}
	return slices.ContainsFunc(nameLists(r), func(names []string) bool { return len(names) > api.MaxNeeds })
}

// nameLists returns the lists of names in the elements of r.
func nameLists(r api.Rules) [][]string {
	var lists [][]string
	for _, u := range r.Units {
		lists = append(lists, u.Needs, u.Trains, u.Researches)
	}
	for _, t := range r.Techs {
		lists = append(lists, t.Needs)
	}
	return lists
}

// hasBadName tells whether an element of r has a name that is none.
func hasBadName(r api.Rules) bool {
	return anyBadName(r.Units, unitName) || anyBadName(r.Weapons, weaponName) || anyBadName(r.Techs, techName)
}

// anyBadName tells whether an element of a list has a name that is none.
func anyBadName[T any](list []T, nameOf func(T) string) bool {
	return slices.ContainsFunc(list, func(x T) bool { return !Name(nameOf(x)) })
}

// isAscending tells whether all lists of r ascend strictly by name.
func isAscending(r api.Rules) bool {
	if !ascending(r.Units, unitName) || !ascending(r.Weapons, weaponName) || !ascending(r.Techs, techName) {
		return false
	}
	itself := func(name string) string { return name }
	return !slices.ContainsFunc(nameLists(r), func(names []string) bool { return !ascending(names, itself) })
}

// ascending tells whether a list ascends strictly, byte by byte, by the names of its elements.
func ascending[T any](list []T, nameOf func(T) string) bool {
	for i := 1; i < len(list); i++ {
		if nameOf(list[i-1]) >= nameOf(list[i]) {
			return false
		}
	}
	return true
}

// hasSharedName tells whether a technology has the name of a unit type.
func hasSharedName(r api.Rules) bool {
	return slices.ContainsFunc(r.Techs, func(t api.Tech) bool { return isType(r, t.Name) })
}

// hasBadNumber tells whether a number of r is outside its range, or a unit is a depot.
func hasBadNumber(r api.Rules) bool {
	for _, u := range r.Units {
		if u.Depot && !u.Building || anyOutside(typeNumbers(u)) {
			return true
		}
	}
	badWeapon := func(w api.Weapon) bool { return anyOutside(weaponNumbers(w)) }
	badTech := func(t api.Tech) bool { return anyOutside(techNumbers(t)) }
	return slices.ContainsFunc(r.Weapons, badWeapon) || slices.ContainsFunc(r.Techs, badTech)
}

// anyOutside tells whether one of some numbers is outside its range.
func anyOutside(list []ranged) bool {
	return slices.ContainsFunc(list, func(x ranged) bool { return x.number < x.least || x.number > x.most })
}

// typeNumbers returns the numbers of a unit type.
func typeNumbers(u api.UnitType) []ranged {
	list := []ranged{
		{u.Sight, 0, 16}, {u.Hp, 1, api.MaxStat}, {u.Armor, 0, api.MaxStat},
		{u.Ore, 0, api.MaxStat}, {u.Wood, 0, api.MaxStat}, {u.Time, 0, api.MaxStat},
	}
	if u.Building {
		return append(list, ranged{u.Class, 0, 0}, ranged{u.W, 1, 4}, ranged{u.H, 1, 4}, ranged{u.Radius, 0, 0}, ranged{u.Speed, 0, 0}, ranged{u.Load, 0, 0})
	}
	return append(list, ranged{u.Class, api.CFoot, api.CFly}, ranged{u.W, 0, 0}, ranged{u.H, 0, 0}, ranged{u.Radius, 16, 128}, ranged{u.Speed, 0, api.Scale}, ranged{u.Load, 0, api.MaxStat})
}

// weaponNumbers returns the numbers of a weapon.
func weaponNumbers(w api.Weapon) []ranged {
	return []ranged{{w.Range, 0, 32 * api.Scale}, {w.Damage, 0, api.MaxStat}, {w.Cool, 0, api.MaxStat}, {w.Speed, 0, 2 * api.Scale}, {w.Splash, 0, 4 * api.Scale}}
}

// techNumbers returns the numbers of a technology.
func techNumbers(t api.Tech) []ranged {
	return []ranged{{t.Ore, 0, api.MaxStat}, {t.Wood, 0, api.MaxStat}, {t.Time, 0, api.MaxStat}, {t.Amount, 0, api.MaxStat}, {t.Stat, api.StHp, api.StRange}}
}

// hasUnknownName tells whether an element of r names an element that is not there.
func hasUnknownName(r api.Rules) bool {
	noType := func(name string) bool { return !isType(r, name) }
	noTech := func(name string) bool { return !isTech(r, name) }
	neither := func(name string) bool { return noType(name) && noTech(name) }
	for _, u := range r.Units {
		if u.Weapon != "" && !isWeapon(r, u.Weapon) {
			return true
		}
		if slices.ContainsFunc(u.Needs, neither) || slices.ContainsFunc(u.Trains, noType) || slices.ContainsFunc(u.Researches, noTech) {
			return true
		}
	}
	return slices.ContainsFunc(r.Techs, func(t api.Tech) bool { return slices.ContainsFunc(t.Needs, neither) || noType(t.Unit) })
}

// hasWrongType tells whether an element of r names a unit where only a building may be named or the other way around, or a unit researches.
func hasWrongType(r api.Rules) bool {
	isUnit := func(name string) bool { u, ok := Unit(r, name); return ok && !u.Building }
	isBuilding := func(name string) bool { u, ok := Unit(r, name); return ok && u.Building }
	for _, u := range r.Units {
		wrong := isUnit
		if u.Building {
			wrong = isBuilding
		}
		if slices.ContainsFunc(u.Trains, wrong) || len(u.Researches) > 0 && !u.Building {
			return true
		}
	}
	return slices.ContainsFunc(items(r), func(x item) bool { return slices.ContainsFunc(x.needs, isUnit) })
}

// hasCycle tells whether there is a cycle of needs in r, all of whose names are known: only then is something missing in the order.
func hasCycle(r api.Rules) bool {
	return len(available(r)) < len(r.Units)+len(r.Techs)
}

// isType tells whether r has a unit type with a name.
func isType(r api.Rules, name string) bool {
	return position(r.Units, unitName, name) >= 0
}

// isWeapon tells whether r has a weapon with a name.
func isWeapon(r api.Rules, name string) bool {
	return position(r.Weapons, weaponName, name) >= 0
}

// isTech tells whether r has a technology with a name.
func isTech(r api.Rules, name string) bool {
	return position(r.Techs, techName, name) >= 0
}
