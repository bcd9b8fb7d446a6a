package grid_test

import (
	"math/rand"
	"slices"
	"testing"

	"skirmish/api"
	"skirmish/grid"
)

func rect(x, y, w, h int) api.Rect { return api.Rect{X: x, Y: y, W: w, H: h} }

// smallRects returns rectangles, empty ones, too, around the cell (0, 0).
func smallRects() []api.Rect {
	var list []api.Rect
	for x := -2; x <= 2; x++ {
		for y := -2; y <= 2; y++ {
			for w := -1; w <= 3; w++ {
				for h := -1; h <= 3; h++ {
					list = append(list, rect(x, y, w, h))
				}
			}
		}
	}
	return list
}

// rects returns rectangles of edges, of small numbers and of numbers of all sizes.
func rects() []api.Rect {
	random := rand.New(rand.NewSource(66))
	numbers := edges()
	edge := func() int { return numbers[random.Intn(len(numbers))] }
	small := func() int { return random.Intn(50) - 10 }
	var list []api.Rect
	for range 150 {
		list = append(list, rect(edge(), edge(), edge(), edge()), rect(edge(), small(), small(), edge()), rect(small(), edge(), edge(), small()))
		list = append(list, rect(small(), small(), small(), small()), rect(edge(), edge(), small(), small()), rect(small(), small(), edge(), edge()))
	}
	return list
}

func nearestRect(r api.Rect) api.Rect {
	return rect(nearest(r.X), nearest(r.Y), nearest(r.W), nearest(r.H))
}

// contains tells by the definition whether a rectangle contains a cell.
func contains(r api.Rect, p api.Pos) bool {
	r, p = nearestRect(r), nearestCell(p)
	return r.X <= p.X && p.X < r.X+r.W && r.Y <= p.Y && p.Y < r.Y+r.H
}

// P6.5
func TestInside(t *testing.T) {
	cases := []struct {
		r    api.Rect
		p    api.Pos
		want bool
	}{
		{rect(1, 2, 3, 1), at(1, 2), true}, {rect(1, 2, 3, 1), at(3, 2), true}, {rect(1, 2, 3, 1), at(4, 2), false}, {rect(1, 2, 3, 1), at(0, 2), false}, {rect(1, 2, 3, 1), at(1, 1), false}, {rect(1, 2, 3, 1), at(1, 3), false},
		{rect(1, 2, 1, 3), at(1, 4), true}, {rect(1, 2, 1, 3), at(2, 4), false}, {rect(1, 2, 1, 3), at(1, 5), false}, {rect(-3, -3, 2, 2), at(-2, -2), true}, {rect(-3, -3, 2, 2), at(-1, -2), false}, {rect(-3, -3, 2, 2), at(-3, -4), false},
		{rect(0, 0, 0, 0), at(0, 0), false}, {rect(0, 0, 0, 4), at(0, 0), false}, {rect(0, 0, 4, 0), at(0, 0), false}, {rect(0, 0, -1, 4), at(-1, 0), false}, {rect(0, 0, 4, -1), at(0, -1), false}, {rect(0, 0, -2, -2), at(-1, -1), false},
		// Numbers beyond the bounds.
		{rect(bound, bound, 1, 1), at(maxInt, bound+1), true}, {rect(maxInt, bound+1, 1, 1), at(bound, maxInt), true}, {rect(minInt, minInt, 1, 1), at(-bound, minInt), true}, {rect(minInt, 0, maxInt, 1), at(-1, 0), true}, {rect(minInt, 0, maxInt, 1), at(0, 0), false},
		{rect(0, 0, maxInt, 1), at(bound, 0), false}, {rect(0, 0, maxInt, 1), at(maxInt, 0), false}, {rect(0, 0, maxInt, 1), at(bound-1, 0), true}, {rect(1, 1, maxInt, maxInt), at(maxInt, maxInt), true}, {rect(0, -1, 1, maxInt), at(0, bound-1), false}, {rect(0, 1, 1, maxInt), at(0, bound), true}, {rect(0, 0, minInt, minInt), at(0, 0), false},
	}
	for _, c := range cases {
		if in := grid.Inside(c.r, c.p); in != c.want {
			t.Errorf("Inside(%v, %v) = %v", c.r, c.p, in)
		}
	}
	for _, r := range append(smallRects(), rects()...) {
		for _, p := range append(cells(), at(r.X, r.Y), at(nearest(r.X)+nearest(r.W)-1, nearest(r.Y)+nearest(r.H)-1), at(nearest(r.X)+nearest(r.W), r.Y), at(r.X, nearest(r.Y)+nearest(r.H))) {
			if in := grid.Inside(r, p); in != contains(r, p) {
				t.Fatalf("Inside(%v, %v) = %v", r, p, in)
			}
		}
	}
}

// P6.5
func TestClip(t *testing.T) {
	cases := []struct {
		w, h    int
		r, want api.Rect
	}{
		{4, 4, rect(-1, 2, 3, 9), rect(0, 2, 2, 2)}, {4, 4, rect(1, 1, 2, 2), rect(1, 1, 2, 2)}, {4, 4, rect(0, 0, 4, 4), rect(0, 0, 4, 4)}, {4, 4, rect(-9, -9, 99, 99), rect(0, 0, 4, 4)}, {5, 3, rect(4, 2, 7, 7), rect(4, 2, 1, 1)}, {8, 5, rect(6, 0, 9, 9), rect(6, 0, 2, 5)}, {5, 8, rect(0, 6, 9, 9), rect(0, 6, 5, 2)},
		// No cells: beside the grid, or in an empty rectangle.
		{4, 4, rect(4, 0, 1, 1), rect(0, 0, 0, 0)}, {4, 4, rect(0, 4, 1, 1), rect(0, 0, 0, 0)}, {4, 4, rect(-2, 1, 2, 1), rect(0, 0, 0, 0)}, {4, 4, rect(1, -2, 1, 2), rect(0, 0, 0, 0)}, {4, 4, rect(1, 1, 0, 2), rect(0, 0, 0, 0)}, {4, 4, rect(1, 1, 2, 0), rect(0, 0, 0, 0)}, {4, 4, rect(3, 3, -2, -2), rect(0, 0, 0, 0)}, {4, 4, rect(3, 1, -2, 2), rect(0, 0, 0, 0)}, {4, 4, rect(9, 1, 2, -5), rect(0, 0, 0, 0)},
		{0, 4, rect(0, 0, 2, 2), rect(0, 0, 0, 0)}, {4, 0, rect(0, 0, 2, 2), rect(0, 0, 0, 0)}, {-4, -4, rect(-4, -4, 4, 4), rect(0, 0, 0, 0)}, {-4, 4, rect(-9, 0, 20, 4), rect(0, 0, 0, 0)}, {minInt, minInt, rect(minInt, minInt, maxInt, maxInt), rect(0, 0, 0, 0)},
		// The grid need not be valid, and numbers beyond the bounds are replaced.
		{1000, 40, rect(990, 30, 20, 20), rect(990, 30, 10, 10)}, {maxInt, maxInt, rect(0, 0, maxInt, maxInt), rect(0, 0, bound, bound)}, {maxInt, 1, rect(bound-1, 0, 5, 1), rect(bound-1, 0, 1, 1)}, {maxInt, 1, rect(bound, 0, 5, 1), rect(0, 0, 0, 0)}, {maxInt, 1, rect(maxInt, 0, 5, 1), rect(0, 0, 0, 0)},
		{8, 8, rect(minInt, minInt, maxInt, maxInt), rect(0, 0, 0, 0)}, {8, 8, rect(1-bound, 3-bound, maxInt, maxInt), rect(0, 0, 1, 3)}, {8, 8, rect(2, 3, maxInt, maxInt), rect(2, 3, 6, 5)}, {8, 8, rect(0, 0, minInt, 5), rect(0, 0, 0, 0)}, {1, maxInt, rect(-5, 7, 6, 1<<40), rect(0, 7, 1, bound-7)},
	}
	for _, c := range cases {
		if r := grid.Clip(c.w, c.h, c.r); r != c.want {
			t.Errorf("Clip(%d, %d, %v) = %v, want %v", c.w, c.h, c.r, r, c.want)
		}
	}
}

// P6.5
func TestClipOfSmallRects(t *testing.T) {
	for _, r := range smallRects() {
		for w := -1; w <= 4; w++ {
			for h := -1; h <= 4; h++ {
				var want []api.Pos
				for y := -6; y <= 6; y++ {
					for x := -6; x <= 6; x++ {
						if contains(r, at(x, y)) && 0 <= x && x < w && 0 <= y && y < h {
							want = append(want, at(x, y))
						}
					}
				}
				clip := grid.Clip(w, h, r)
				if !slices.Equal(grid.Cells(clip), want) || len(want) == 0 && clip != (api.Rect{}) {
					t.Fatalf("Clip(%d, %d, %v) = %v, but the cells are %v", w, h, r, clip, want)
				}
			}
		}
	}
}

// P6.5: what a clip of any size contains is what the rectangle and the grid contain.
func TestClipOfAllSizes(t *testing.T) {
	sides := edges()
	for i, r := range rects() {
		w, h := sides[i%len(sides)], sides[i/len(sides)%len(sides)]
		clip, near := grid.Clip(w, h, r), nearestRect(r)
		if clip != (api.Rect{}) && (clip.W < 1 || clip.H < 1 || !contains(r, at(clip.X, clip.Y))) {
			t.Fatalf("Clip(%d, %d, %v) = %v", w, h, r, clip)
		}
		for _, x := range []int{-1, 0, 1, near.X - 1, near.X, near.X + near.W - 1, near.X + near.W, nearest(w) - 1, nearest(w)} {
			for _, y := range []int{-1, 0, 1, near.Y - 1, near.Y, near.Y + near.H - 1, near.Y + near.H, nearest(h) - 1, nearest(h)} {
				want := near.X <= x && x < near.X+near.W && near.Y <= y && y < near.Y+near.H && 0 <= x && x < nearest(w) && 0 <= y && y < nearest(h)
				if has := clip.X <= x && x < clip.X+clip.W && clip.Y <= y && y < clip.Y+clip.H; has != want {
					t.Fatalf("Clip(%d, %d, %v) = %v, which contains (%d, %d): %v", w, h, r, clip, x, y, has)
				}
			}
		}
	}
}

// P6.5
func TestCells(t *testing.T) {
	cases := []struct {
		r    api.Rect
		want []api.Pos
	}{
		{rect(1, 2, 2, 2), []api.Pos{at(1, 2), at(2, 2), at(1, 3), at(2, 3)}}, {rect(-1, -1, 3, 1), []api.Pos{at(-1, -1), at(0, -1), at(1, -1)}}, {rect(5, 6, 1, 3), []api.Pos{at(5, 6), at(5, 7), at(5, 8)}}, {rect(0, 0, 1, 1), []api.Pos{at(0, 0)}},
		{rect(0, 0, 0, 0), nil}, {rect(0, 0, 0, 5), nil}, {rect(0, 0, 5, 0), nil}, {rect(0, 0, -1, 5), nil}, {rect(0, 0, 5, -1), nil}, {rect(0, 0, -3, -3), nil}, {rect(0, 0, minInt, minInt), nil}, {rect(0, 0, minInt, maxInt), nil},
		{rect(0, 0, 1025, 1), nil}, {rect(0, 0, 1, 1025), nil}, {rect(0, 0, 33, 32), nil}, {rect(0, 0, 32, 33), nil}, {rect(0, 0, 5, 205), nil}, {rect(0, 0, maxInt, 1), nil}, {rect(0, 0, 1, maxInt), nil}, {rect(0, 0, maxInt, maxInt), nil}, {rect(0, 0, 1<<32, 1<<32), nil},
		// Distant rectangles are replaced, and their cells may leave the bounds.
		{rect(maxInt, minInt, 2, 2), []api.Pos{at(bound, -bound), at(bound+1, -bound), at(bound, 1-bound), at(bound+1, 1-bound)}}, {rect(bound+1, 0, 1, 1), []api.Pos{at(bound, 0)}}, {rect(-bound-1, -bound-1, 1, 1), []api.Pos{at(-bound, -bound)}},
	}
	for _, c := range cases {
		if list := grid.Cells(c.r); !slices.Equal(list, c.want) {
			t.Errorf("Cells(%v) = %v, want %v", c.r, list, c.want)
		}
	}
	for _, r := range []api.Rect{rect(0, 0, 32, 32), rect(-9, 5, 1024, 1), rect(5, -9, 1, 1024), rect(0, 0, 2, 512), rect(0, 0, 341, 3)} {
		list := grid.Cells(r)
		if len(list) != r.W*r.H {
			t.Fatalf("Cells(%v) returns %d cells", r, len(list))
		}
		for i, p := range list {
			if p != at(r.X+i%r.W, r.Y+i/r.W) {
				t.Fatalf("Cells(%v)[%d] = %v", r, i, p)
			}
		}
	}
}

// P6.5
func TestMeet(t *testing.T) {
	cases := []struct {
		a, b api.Rect
		want bool
	}{
		{rect(1, 2, 2, 2), rect(2, 3, 5, 5), true}, {rect(1, 2, 2, 2), rect(3, 2, 1, 1), false}, {rect(1, 2, 2, 2), rect(1, 4, 1, 1), false}, {rect(1, 2, 2, 2), rect(3, 4, 1, 1), false}, {rect(1, 2, 2, 2), rect(0, 0, 9, 9), true}, {rect(1, 2, 2, 2), rect(2, 2, 1, 1), true}, {rect(1, 2, 2, 2), rect(-5, 3, 20, 1), true}, {rect(1, 2, 2, 2), rect(1, 2, 2, 2), true},
		// Empty rectangles meet none, not even themselves.
		{rect(1, 2, 2, 2), rect(1, 2, 0, 2), false}, {rect(1, 2, 2, 2), rect(1, 2, 2, 0), false}, {rect(0, 0, 9, 9), rect(5, 5, -3, 2), false}, {rect(0, 0, 9, 9), rect(5, 5, -3, -3), false}, {rect(0, 0, 9, 9), rect(5, 5, 2, -3), false}, {rect(0, 0, 0, 0), rect(0, 0, 0, 0), false}, {rect(3, 3, -2, -2), rect(3, 3, -2, -2), false},
		// Numbers beyond the bounds.
		{rect(maxInt, 0, 1, 1), rect(bound, 0, 1, 1), true}, {rect(maxInt, 0, 1, 1), rect(bound-1, 0, 1, 1), false}, {rect(bound+1, 0, 1, 1), rect(bound+3, 0, 1, 1), true}, {rect(0, minInt, 1, 1), rect(0, -bound-4, 1, 1), true}, {rect(minInt, minInt, maxInt, maxInt), rect(-1, -1, 1, 1), true}, {rect(minInt, minInt, maxInt, maxInt), rect(0, 0, 1, 1), false}, {rect(0, 0, maxInt, maxInt), rect(maxInt, 0, 1, 1), false}, {rect(1, 0, maxInt, maxInt), rect(maxInt, 0, 1, 1), true}, {rect(0, 0, minInt, maxInt), rect(0, 0, 1, 1), false},
	}
	for _, c := range cases {
		if meet := grid.Meet(c.a, c.b); meet != c.want {
			t.Errorf("Meet(%v, %v) = %v", c.a, c.b, meet)
		}
	}
}

// P6.5: two small rectangles meet if one of the cells around (0, 0) is in both.
func TestMeetOfSmallRects(t *testing.T) {
	list := smallRects()
	masks := make([][121]bool, len(list))
	for i, r := range list {
		for n := range masks[i] {
			masks[i][n] = contains(r, at(n%11-5, n/11-5))
		}
	}
	common := func(a, b *[121]bool) bool {
		for n := range a {
			if a[n] && b[n] {
				return true
			}
		}
		return false
	}
	for i, a := range list {
		for j, b := range list {
			if want := common(&masks[i], &masks[j]); grid.Meet(a, b) != want {
				t.Fatalf("Meet(%v, %v) = %v", a, b, !want)
			}
		}
	}
}

// P6.5 and P6.6
func TestMeetOfAllSizes(t *testing.T) {
	overlap := func(a, c, b, d int) bool { return c > 0 && d > 0 && a < b+d && b < a+c }
	for _, a := range rects() {
		for _, b := range rects() {
			p, q := nearestRect(a), nearestRect(b)
			want := overlap(p.X, p.W, q.X, q.W) && overlap(p.Y, p.H, q.Y, q.H)
			if grid.Meet(a, b) != want || grid.Meet(b, a) != want {
				t.Fatalf("Meet(%v, %v) = %v, in the other order %v", a, b, grid.Meet(a, b), grid.Meet(b, a))
			}
		}
	}
}
