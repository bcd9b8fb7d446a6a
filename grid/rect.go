package grid

import "skirmish/api"

// maxCells is the greatest number of cells that Cells lists.
const maxCells = 1024

// Inside tells whether r contains p.
func Inside(r api.Rect, p api.Pos) bool {
	r, p = nearestRect(r), nearest(p)
	return In(r.W, r.H, api.Pos{X: p.X - r.X, Y: p.Y - r.Y})
}

// Clip returns the rectangle of the cells of r that are cells of a grid of w by h cells.
func Clip(w, h int, r api.Rect) api.Rect {
	return common(api.Rect{W: w, H: h}, r)
}

// Cells returns the cells of r, row by row and from left to right, and nothing if they are too many.
func Cells(r api.Rect) []api.Pos {
	r = nearestRect(r)
	if empty(r) || r.W*r.H > maxCells {
		return nil
	}
	list := make([]api.Pos, 0, r.W*r.H)
	for y := range r.H {
		for x := range r.W {
			list = append(list, api.Pos{X: r.X + x, Y: r.Y + y})
		}
	}
	return list
}

// Meet tells whether a and b have a common cell.
func Meet(a, b api.Rect) bool {
	return !empty(common(a, b))
}

// common returns the rectangle of the common cells of a and b, and the zero rectangle if there are none.
func common(a, b api.Rect) api.Rect {
	a, b = nearestRect(a), nearestRect(b)
	x, y := max(a.X, b.X), max(a.Y, b.Y)
	// If a or b is empty, so is r, which begins nowhere before and ends nowhere behind one of them.
	r := api.Rect{
		X: x, W: min(a.X+a.W, b.X+b.W) - x,
		Y: y, H: min(a.Y+a.H, b.Y+b.H) - y,
	}
	if empty(r) {
		return api.Rect{}
	}
	return r
}

// empty tells whether r has no cells.
func empty(r api.Rect) bool {
	return r.W < 1 || r.H < 1
}

// nearestRect returns a rectangle, each number of which is replaced by its nearest value.
func nearestRect(r api.Rect) api.Rect {
	return api.Rect{X: nearestNumber(r.X), Y: nearestNumber(r.Y), W: nearestNumber(r.W), H: nearestNumber(r.H)}
}
