package ruletext

import (
	"strings"

	"skirmish/api"
	"skirmish/rules"
)

// words are the words at the beginning of elements, by their kinds.
var words = [...]string{unitKind: "unit", weaponKind: "weapon", techKind: "tech"}

// Print returns the text of r, or what is wrong with r if it is not valid.
func Print(r api.Rules) (string, api.Errno) {
	if e := rules.Validate(r); e != api.OK {
		return "", e
	}
	var text strings.Builder
	for kind := unitKind; kind <= techKind; kind++ {
		for i, name := range names(r, kind) {
			text.WriteString(words[kind] + " " + name + "\n")
			x := elementAt(r, kind, i)
			for _, field := range Fields(kind) {
				text.WriteString(beginning(field) + x.text(field) + "\n")
			}
		}
	}
	return text.String(), api.OK
}

// beginning returns what stands ahead of the value in the line of a field.
func beginning(field string) string {
	return " " + field + " "
}
