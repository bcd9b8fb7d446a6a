package ruletext

import (
	"slices"
	"strconv"
	"strings"

	"skirmish/rules"
)

// The sorts of values.
const (
	numberSort = iota // of all fields that sorts does not list
	flagSort
	nameSort
	listSort
)

// The words for values, and what separates the names of a list.
const (
	yes   = "yes"
	no    = "no"
	none  = "-"
	comma = ","
)

// sorts returns the sorts of the values of fields, by the names of the fields. A name stands for the same sort in all kinds.
func sorts() map[string]int {
	return map[string]int{
		"building": flagSort, "depot": flagSort,
		"weapon": nameSort, "unit": nameSort,
		"needs": listSort, "trains": listSort, "researches": listSort,
	}
}

// text returns the text of the value of a field of x.
func (x element) text(field string) string {
	switch x.sorts[field] {
	case flagSort:
		return flagText(*x.flags[field])
	case nameSort:
		return nameText(*x.names[field])
	case listSort:
		return listText(*x.lists[field])
	}
	return strconv.Itoa(*x.numbers[field])
}

// read gives a field of x the value that is written as s, and tells whether s is readable as one.
func (x element) read(field, s string) bool {
	ok := false
	switch x.sorts[field] {
	case flagSort:
		*x.flags[field], ok = readFlag(s)
	case nameSort:
		*x.names[field], ok = readName(s)
	case listSort:
		*x.lists[field], ok = readList(s)
	default:
		*x.numbers[field], ok = readNumber(s)
	}
	return ok
}

// flagText returns the text of a bool.
func flagText(flag bool) string {
	if flag {
		return yes
	}
	return no
}

// nameText returns the text of a name, or of the missing of one.
func nameText(name string) string {
	if name == "" {
		return none
	}
	return name
}

// listText returns the text of a list of names.
func listText(list []string) string {
	if len(list) == 0 {
		return none
	}
	return strings.Join(list, comma)
}

// readFlag returns the bool that is written as s.
func readFlag(s string) (bool, bool) {
	return s == yes, s == yes || s == no
}

// readName returns the name that is written as s, which is empty if s says that there is none.
func readName(s string) (string, bool) {
	if s == none {
		return "", true
	}
	return s, rules.Name(s)
}

// readList returns the list of names that is written as s.
func readList(s string) ([]string, bool) {
	if s == none {
		return nil, true
	}
	list := strings.Split(s, comma)
	return list, !slices.ContainsFunc(list, func(name string) bool { return !rules.Name(name) })
}

// readNumber returns the int that is written as s.
func readNumber(s string) (int, bool) {
	n, err := strconv.Atoi(s)
	// Atoi also accepts a plus sign, leading zeros and -0, which are not decimal texts of an int.
	return n, err == nil && strconv.Itoa(n) == s
}
