package ruletext

import (
	"strings"

	"skirmish/api"
	"skirmish/rules"
)

// reader reads the lines of a text in order.
type reader struct {
	rest string    // what has not been read yet
	line int       // the number of the line that was read last
	kind int       // the kind of the element that was read last
	r    api.Rules // what has been read
}

// Parse returns the rules whose text is s and 0. If there are none, it returns the number of the first wrong line, or 0 if s is too long or the rules are not valid.
func Parse(s string) (api.Rules, int, api.Errno) {
	if len(s) > api.MaxText {
		return api.Rules{}, 0, api.ErrLimit
	}
	x := reader{rest: s}
	for x.rest != "" {
		if !x.element() {
			return api.Rules{}, x.line, api.ErrSyntax
		}
	}
	if e := rules.Validate(x.r); e != api.OK {
		return api.Rules{}, 0, e
	}
	return x.r, 0, api.OK
}

// element reads the lines of an element, up to the first wrong one, and tells whether there is none.
func (x *reader) element() bool {
	line, complete := x.next()
	word, name, _ := strings.Cut(line, " ")
	kind, isKind := kindOf(word)
	if !complete || !isKind || !rules.Name(name) || kind < x.kind {
		return false
	}
	x.kind = kind
	to := x.add(name)
	for _, field := range Fields(kind) {
		line, complete := x.next()
		value, isField := strings.CutPrefix(line, beginning(field))
		if !complete || !isField || !to.read(field, value) {
			return false
		}
	}
	return true
}

// next reads the next line and tells whether it ends with a line feed. Behind the last line is one that does not.
func (x *reader) next() (string, bool) {
	line, rest, complete := strings.Cut(x.rest, "\n")
	x.line++
	x.rest = rest
	return line, complete
}

// add adds an element of the kind x.kind with a name and returns it.
func (x *reader) add(name string) element {
	switch x.kind {
	case unitKind:
		x.r.Units = append(x.r.Units, api.UnitType{Name: name})
	case weaponKind:
		x.r.Weapons = append(x.r.Weapons, api.Weapon{Name: name})
	case techKind:
		x.r.Techs = append(x.r.Techs, api.Tech{Name: name})
	}
	return elementAt(x.r, x.kind, len(names(x.r, x.kind))-1)
}

// kindOf returns the kind of elements that begin with a word.
func kindOf(word string) (int, bool) {
	for kind, w := range words {
		if w == word && w != "" {
			return kind, true
		}
	}
	return 0, false
}
