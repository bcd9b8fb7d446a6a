package terrain

import (
	"skirmish/api"
	"skirmish/grid"
)

// directions is the number of directions of layer 6; the odd ones are diagonal.
const directions = 8

// The costs of steps.
const (
	straightCost = 10
	diagonalCost = 14
	climbCost    = 5 // more if the heights differ
)

// passage is what a kind of terrain lets pass. All kinds let flying units pass.
type passage struct{ foot, hover, sight bool }

// passages are those of the kinds, by their numbers; the first one is that of a number that is no kind.
var passages = [6]passage{
	{foot: false, hover: false, sight: true},
	{foot: true, hover: true, sight: true},    // TGround
	{foot: false, hover: true, sight: true},   // TWater
	{foot: false, hover: false, sight: false}, // TRock
	{foot: false, hover: false, sight: false}, // TForest
	{foot: true, hover: true, sight: true},    // TOre
}

// Passable tells whether p is inside m and its terrain lets units of a movement class pass.
func Passable(m api.Map, class int, p api.Pos) bool {
	c, ok := Get(m, p)
	if !ok {
		return false
	}
	switch class {
	case api.CFoot:
		return passageOf(c.Kind).foot
	case api.CHover:
		return passageOf(c.Kind).hover
	case api.CFly:
		return true
	}
	return false
}

// Opaque tells whether p is not inside m, or its terrain hides what lies behind it.
func Opaque(m api.Map, p api.Pos) bool {
	c, ok := Get(m, p)
	return !ok || !passageOf(c.Kind).sight
}

// Step returns the cost of the step from p in the direction dir and true if a unit of a movement class can make it.
func Step(m api.Map, blocked []bool, class int, p api.Pos, dir int) (int, bool) {
	if dir < 0 || dir >= directions {
		return 0, false
	}
	q := grid.Step(p, dir)
	if !joined(m, blocked, class, p, q) {
		return 0, false
	}
	if isDiagonal(dir) && class != api.CFly && !bothWaysAround(m, blocked, class, p, dir) {
		return 0, false
	}
	return cost(m, class, p, q, dir), true
}

// passageOf returns the passage of a kind, which in a map that is not valid may be any number.
func passageOf(kind int) passage {
	if !isKind(kind) {
		return passages[0]
	}
	return passages[kind]
}

// open tells whether p is passable for class and, unless its units fly, not blocked.
func open(m api.Map, blocked []bool, class int, p api.Pos) bool {
	if !Passable(m, class, p) {
		return false
	}
	index := grid.Index(m.W, p)
	return class == api.CFly || index >= len(blocked) || !blocked[index]
}

// joined tells whether the neighbors p and q are open and, unless units of the class fly, their heights differ by at most 1.
func joined(m api.Map, blocked []bool, class int, p, q api.Pos) bool {
	if !open(m, blocked, class, p) || !open(m, blocked, class, q) {
		return false
	}
	return class == api.CFly || rise(m, p, q) <= 1
}

// bothWaysAround tells whether from p both ways of two straight steps lead to its neighbor in the diagonal direction dir.
func bothWaysAround(m api.Map, blocked []bool, class int, p api.Pos, dir int) bool {
	q := grid.Step(p, dir)
	for _, beside := range [2]int{dir - 1, (dir + 1) % directions} {
		o := grid.Step(p, beside)
		if !joined(m, blocked, class, p, o) || !joined(m, blocked, class, o, q) {
			return false
		}
	}
	return true
}

// cost returns the cost of the step from p to q, which is possible, in the direction dir.
func cost(m api.Map, class int, p, q api.Pos, dir int) int {
	total := straightCost
	if isDiagonal(dir) {
		total = diagonalCost
	}
	if class != api.CFly && rise(m, p, q) > 0 {
		total += climbCost
	}
	return total
}

// rise returns the difference of the heights of p and q. It is unsigned, because in a map that is not valid it may be no int.
func rise(m api.Map, p, q api.Pos) uint64 {
	a, _ := Get(m, p)
	b, _ := Get(m, q)
	return uint64(max(a.Height, b.Height)) - uint64(min(a.Height, b.Height))
}

// isDiagonal tells whether dir is a diagonal direction.
func isDiagonal(dir int) bool {
	return dir%2 == 1
}
