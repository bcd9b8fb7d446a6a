package shadow

import (
	"skirmish/api"
	"skirmish/grid"
	"skirmish/terrain"
)

// unblocked tells whether no cell blocks the line from (0, 0) to (x, y) in an octant. Both are inside m.
func unblocked(m api.Map, place placing, x, y int) bool {
	d, level := api.Pos{X: x, Y: y}, upper(m, place(0, 0), place(x, y))
	for column := 1; column < x; column++ {
		// The line is in the columns of its ends only in their own cells. In the others it rises by one row at most, so that it meets no cells but the two between whose centers it passes.
		row := column * y / x
		for _, c := range [2]api.Pos{{X: column, Y: row}, {X: column, Y: row + 1}} {
			if meets(d, c) && hides(m, place(c.X, c.Y), level) {
				return false
			}
		}
	}
	return true
}

// meets tells whether the line from the cell (0, 0) to the cell d meets the open square of c. As both are convex, it does unless they are separated by a line that is parallel to a side of the square or to the line itself.
func meets(d, c api.Pos) bool {
	return between(d.X, c.X) && between(d.Y, c.Y) && 2*size(d.X*c.Y-d.Y*c.X) < size(d.X)+size(d.Y)
}

// hides tells whether c, which is inside m, blocks the lines that meet it between cells the upper one of which has the height level.
func hides(m api.Map, c api.Pos, level int) bool {
	return terrain.Opaque(m, c) || height(m, c) > level
}

// upper returns the greater one of the heights of a and b, which are inside m.
func upper(m api.Map, a, b api.Pos) int {
	return max(height(m, a), height(m, b))
}

// height returns the height of p, which is inside m.
func height(m api.Map, p api.Pos) int {
	return m.Cells[grid.Index(m.W, p)].Height
}

// between tells whether n is from 0 to end, which may be negative.
func between(end, n int) bool {
	return min(0, end) <= n && n <= max(0, end)
}

// minus returns the displacement from b to a.
func minus(a, b api.Pos) api.Pos {
	return api.Pos{X: a.X - b.X, Y: a.Y - b.Y}
}

// size returns the absolute value of n.
func size(n int) int {
	return max(n, -n)
}

// sign returns -1, 0 or 1, as n is negative, zero or positive.
func sign(n int) int {
	return min(max(n, -1), 1)
}
