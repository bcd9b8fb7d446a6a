package grid_test

import (
	"math"
	"math/big"
	"math/rand"
	"slices"
	"testing"

	"skirmish/api"
	"skirmish/grid"
)

const (
	maxInt = math.MaxInt
	minInt = math.MinInt
	bound  = 1 << 20
)

func at(x, y int) api.Pos { return api.Pos{X: x, Y: y} }

// edges are small numbers, and numbers at and around the bounds of grids, of values and of ints.
func edges() []int {
	list := []int{0}
	for _, n := range []int{1, 2, 3, 31, 32, 33, 1023, 1024, bound - 1, bound, bound + 1, 2 * bound, 1 << 32, 1 << 43, 1 << 62, maxInt - 1, maxInt} {
		list = append(list, n, -n)
	}
	return append(list, minInt)
}

// cells returns cells of edges, small ones, and others of all sizes.
func cells() []api.Pos {
	random := rand.New(rand.NewSource(6))
	numbers := edges()
	var list []api.Pos
	for _, n := range numbers {
		list = append(list, at(n, 0), at(0, n), at(n, n), at(n, numbers[random.Intn(len(numbers))]))
	}
	for x := -2; x <= 2; x++ {
		for y := -2; y <= 2; y++ {
			list = append(list, at(x, y))
		}
	}
	for range 60 {
		list = append(list, at(int(random.Uint64())>>random.Intn(64), int(random.Uint64())>>random.Intn(64)))
		list = append(list, at(random.Intn(2*bound)-bound, random.Intn(2*bound)-bound))
		list = append(list, at(random.Intn(40)-4, random.Intn(40)-4))
	}
	return list
}

func nearest(n int) int {
	if n < -bound {
		return -bound
	}
	if n > bound {
		return bound
	}
	return n
}

func nearestCell(p api.Pos) api.Pos { return at(nearest(p.X), nearest(p.Y)) }

// P6.1
func TestValid(t *testing.T) {
	numbers := edges()
	for n := -5; n <= 70; n++ {
		numbers = append(numbers, n)
	}
	for _, w := range numbers {
		for _, h := range numbers {
			want := w >= 1 && w <= 32 && h >= 1 && h <= 32
			if grid.Valid(w, h) != want {
				t.Errorf("Valid(%d, %d) = %v", w, h, !want)
			}
		}
	}
}

// P6.1
func TestIn(t *testing.T) {
	cases := []struct {
		w, h int
		p    api.Pos
		want bool
	}{
		{1, 1, at(0, 0), true}, {1, 1, at(1, 0), false}, {1, 1, at(0, 1), false}, {1, 1, at(-1, 0), false}, {1, 1, at(0, -1), false},
		{3, 2, at(2, 1), true}, {3, 2, at(1, 2), false}, {3, 2, at(3, 1), false}, {2, 3, at(1, 2), true}, {2, 3, at(2, 1), false},
		{0, 5, at(0, 0), false}, {5, 0, at(0, 0), false}, {-1, -1, at(-1, -1), false}, {-1, -1, at(0, 0), false}, {-3, 5, at(-1, 2), false},
		// The grid need not be valid, and nothing is replaced.
		{1000, 1, at(999, 0), true}, {1000, 1, at(1000, 0), false}, {1, 1000, at(0, 999), true}, {1, 1000, at(0, 1000), false}, {33, 33, at(32, 32), true},
		{maxInt, maxInt, at(maxInt-1, maxInt-1), true}, {maxInt, maxInt, at(maxInt, 0), false}, {maxInt, maxInt, at(0, maxInt), false}, {minInt, minInt, at(0, 0), false}, {maxInt, maxInt, at(minInt, 0), false},
		{bound + 2, 1, at(bound+1, 0), true}, {bound + 1, 1, at(bound+1, 0), false}, {1, bound + 2, at(0, bound+1), true}, {1, bound + 1, at(0, bound+5), false},
	}
	for _, c := range cases {
		if in := grid.In(c.w, c.h, c.p); in != c.want {
			t.Errorf("In(%d, %d, %v) = %v", c.w, c.h, c.p, in)
		}
	}
}

// P6.2
func TestIndex(t *testing.T) {
	cases := []struct {
		w    int
		p    api.Pos
		want int
	}{
		{7, at(3, 2), 17}, {7, at(2, 3), 23}, {1, at(0, 0), 0}, {1, at(0, 5), 5}, {5, at(4, 0), 4}, {5, at(5, 0), 5}, {5, at(0, 1), 5}, {32, at(31, 31), 1023},
		{0, at(3, 2), 3}, {-7, at(3, 2), -11}, {7, at(-3, 2), 11}, {7, at(3, -2), -11}, {-7, at(-3, -2), 11},
		// Numbers beyond the bounds.
		{bound + 1, at(0, 1), bound}, {minInt, at(0, 1), -bound}, {1, at(maxInt, 0), bound}, {1, at(bound+1, 3), bound + 3}, {2, at(0, minInt), -2 * bound}, {2, at(1, bound+1), 2*bound + 1}, {3, at(minInt, 1), 3 - bound},
		{maxInt, at(maxInt, maxInt), 1<<40 + bound}, {minInt, at(minInt, minInt), 1<<40 - bound}, {maxInt, at(0, minInt), -1 << 40},
	}
	for _, c := range cases {
		if n := grid.Index(c.w, c.p); n != c.want {
			t.Errorf("Index(%d, %v) = %d, want %d", c.w, c.p, n, c.want)
		}
	}
	for _, p := range cells() {
		for _, w := range edges() {
			if n, want := grid.Index(w, p), nearest(p.Y)*nearest(w)+nearest(p.X); n != want {
				t.Fatalf("Index(%d, %v) = %d, want %d", w, p, n, want)
			}
		}
	}
}

// P6.2
func TestAt(t *testing.T) {
	cases := []struct {
		w, index int
		want     api.Pos
	}{
		{7, 17, at(3, 2)}, {7, 0, at(0, 0)}, {7, 6, at(6, 0)}, {7, 7, at(0, 1)}, {1, 5, at(0, 5)}, {32, 1023, at(31, 31)}, {5, 3, at(3, 0)},
		{0, 5, at(0, 0)}, {-1, 5, at(0, 0)}, {-7, 17, at(0, 0)}, {minInt, 17, at(0, 0)}, {0, 0, at(0, 0)}, {7, -1, at(0, 0)}, {7, -17, at(0, 0)}, {1, minInt, at(0, 0)}, {-7, -17, at(0, 0)}, {0, -1, at(0, 0)},
		// Nothing is replaced.
		{bound + 5, bound + 4, at(bound+4, 0)}, {bound + 5, 2*bound + 11, at(1, 2)}, {1, maxInt, at(0, maxInt)}, {maxInt, maxInt, at(0, 1)}, {maxInt, maxInt - 1, at(maxInt-1, 0)}, {10, 1 << 40, at(6, 109951162777)},
	}
	for _, c := range cases {
		if p := grid.At(c.w, c.index); p != c.want {
			t.Errorf("At(%d, %d) = %v, want %v", c.w, c.index, p, c.want)
		}
	}
	for _, w := range edges() {
		for _, index := range edges() {
			want := at(0, 0)
			if w >= 1 && index >= 0 {
				y, x := new(big.Int).DivMod(big.NewInt(int64(index)), big.NewInt(int64(w)), new(big.Int))
				want = at(int(x.Int64()), int(y.Int64()))
			}
			if p := grid.At(w, index); p != want {
				t.Fatalf("At(%d, %d) = %v, want %v", w, index, p, want)
			}
		}
	}
}

// moved returns the neighbor of p in a direction by the words of the chapter.
func moved(p api.Pos, dir int) api.Pos {
	x, y := nearest(p.X), nearest(p.Y)
	switch dir {
	case 0:
		return at(x+1, y)
	case 1:
		return at(x+1, y+1)
	case 2:
		return at(x, y+1)
	case 3:
		return at(x-1, y+1)
	case 4:
		return at(x-1, y)
	case 5:
		return at(x-1, y-1)
	case 6:
		return at(x, y-1)
	case 7:
		return at(x+1, y-1)
	}
	return p
}

// P6.3
func TestStep(t *testing.T) {
	cases := []struct {
		p    api.Pos
		dir  int
		want api.Pos
	}{
		{at(0, 0), 1, at(1, 1)}, {at(3, 3), 8, at(3, 3)}, {at(0, 0), 4, at(-1, 0)}, {at(0, 0), 6, at(0, -1)}, {at(31, 31), 1, at(32, 32)}, {at(-7, 9), 7, at(-6, 8)},
		// Distant cells are replaced before the step, which may leave the bounds.
		{at(bound, 5), 0, at(bound+1, 5)}, {at(5, -bound), 6, at(5, -bound-1)}, {at(bound+1, 5), 0, at(bound+1, 5)}, {at(bound+2, 5), 2, at(bound, 6)}, {at(maxInt, minInt), 3, at(bound-1, 1-bound)}, {at(maxInt, maxInt), 1, at(bound+1, bound+1)}, {at(minInt, minInt), 5, at(-bound-1, -bound-1)},
		// What is no direction leaves them as they are.
		{at(maxInt, minInt), 8, at(maxInt, minInt)}, {at(bound+1, -bound-1), -1, at(bound+1, -bound-1)}, {at(1, 2), maxInt, at(1, 2)}, {at(1, 2), minInt, at(1, 2)}, {at(1, 2), 1 << 32, at(1, 2)}, {at(1, 2), 256, at(1, 2)},
	}
	for _, c := range cases {
		if p := grid.Step(c.p, c.dir); p != c.want {
			t.Errorf("Step(%v, %d) = %v, want %v", c.p, c.dir, p, c.want)
		}
	}
	for _, p := range cells() {
		dirs := edges()
		for dir := -20; dir <= 20; dir++ {
			dirs = append(dirs, dir)
		}
		for _, dir := range dirs {
			if q := grid.Step(p, dir); q != moved(p, dir) {
				t.Fatalf("Step(%v, %d) = %v, want %v", p, dir, q, moved(p, dir))
			}
		}
	}
}

// P6.3
func TestNeighbors(t *testing.T) {
	cases := []struct {
		w, h int
		p    api.Pos
		want []api.Pos
	}{
		{2, 2, at(0, 0), []api.Pos{at(1, 0), at(1, 1), at(0, 1)}},
		{3, 3, at(1, 1), []api.Pos{at(2, 1), at(2, 2), at(1, 2), at(0, 2), at(0, 1), at(0, 0), at(1, 0), at(2, 0)}},
		{32, 32, at(31, 31), []api.Pos{at(30, 31), at(30, 30), at(31, 30)}},
		{1, 1, at(0, 0), nil}, {1, 3, at(0, 1), []api.Pos{at(0, 2), at(0, 0)}}, {3, 1, at(1, 0), []api.Pos{at(2, 0), at(0, 0)}},
		// Cells outside.
		{2, 2, at(-1, -1), []api.Pos{at(0, 0)}}, {2, 2, at(2, 0), []api.Pos{at(1, 1), at(1, 0)}}, {2, 2, at(0, -1), []api.Pos{at(1, 0), at(0, 0)}}, {2, 2, at(3, 0), nil}, {2, 2, at(-2, 1), nil},
		{32, 32, at(bound, bound), nil}, {32, 32, at(maxInt, 0), nil}, {32, 32, at(minInt, minInt), nil}, {32, 32, at(0, 1<<32), nil},
		// Grids that are not valid.
		{33, 2, at(0, 0), nil}, {2, 33, at(0, 0), nil}, {0, 2, at(0, 0), nil}, {2, 0, at(0, 0), nil}, {-1, 2, at(0, 0), nil}, {2, -1, at(0, 0), nil}, {maxInt, maxInt, at(5, 5), nil}, {minInt, minInt, at(-5, -5), nil},
	}
	for _, c := range cases {
		if list := grid.Neighbors(c.w, c.h, c.p); !slices.Equal(list, c.want) {
			t.Errorf("Neighbors(%d, %d, %v) = %v, want %v", c.w, c.h, c.p, list, c.want)
		}
	}
}

// P6.3: all cells of small and large grids, and those around them.
func TestNeighborsOfAllCells(t *testing.T) {
	for _, side := range [][2]int{{1, 1}, {1, 2}, {2, 1}, {3, 2}, {2, 5}, {7, 7}, {1, 32}, {32, 1}, {32, 32}, {31, 32}, {33, 32}, {32, 33}, {0, 3}, {3, 0}, {-2, -2}} {
		w, h := side[0], side[1]
		for x := -3; x <= w+2; x++ {
			for y := -3; y <= h+2; y++ {
				var want []api.Pos
				for dir := range 8 {
					q := moved(at(x, y), dir)
					if q.X >= 0 && q.X < w && q.Y >= 0 && q.Y < h && w <= 32 && h <= 32 {
						want = append(want, q)
					}
				}
				if list := grid.Neighbors(w, h, at(x, y)); !slices.Equal(list, want) {
					t.Fatalf("Neighbors(%d, %d, (%d, %d)) = %v, want %v", w, h, x, y, list, want)
				}
			}
		}
	}
}

// P6.3 and P6.5: a list is not shared between calls.
func TestListsAreNew(t *testing.T) {
	list := grid.Neighbors(3, 3, at(1, 1))
	list[0] = at(9, 9)
	if again := grid.Neighbors(3, 3, at(1, 1)); again[0] != at(2, 1) {
		t.Errorf("Neighbors returns %v after a change of its last result", again)
	}
	list = grid.Cells(api.Rect{X: 1, Y: 1, W: 2, H: 2})
	list[0] = at(9, 9)
	if again := grid.Cells(api.Rect{X: 1, Y: 1, W: 2, H: 2}); again[0] != at(1, 1) {
		t.Errorf("Cells returns %v after a change of its last result", again)
	}
	if p := grid.Step(at(1, 1), 0); p != at(2, 1) {
		t.Errorf("Step returns %v after a change of lists", p)
	}
}

// P6.4
func TestDistances(t *testing.T) {
	cases := []struct {
		a, b              api.Pos
		octile, chebyshev int
	}{
		{at(0, 0), at(3, 1), 34, 3}, {at(0, 0), at(1, 3), 34, 3}, {at(-2, 7), at(3, 5), 58, 5}, {at(4, 4), at(4, 4), 0, 0}, {at(0, 0), at(5, 0), 50, 5}, {at(0, 0), at(0, -5), 50, 5}, {at(0, 0), at(-4, 4), 56, 4}, {at(2, 3), at(3, 2), 14, 1},
		{at(0, 0), at(31, 31), 434, 31}, {at(0, 31), at(31, 0), 434, 31}, {at(-1, -1), at(1, 0), 24, 2},
		// Differences beyond the bounds are exact, but the numbers of distant cells are replaced.
		{at(-bound, 0), at(bound, 0), 20 * bound, 2 * bound}, {at(-bound, bound), at(bound, -bound), 28 * bound, 2 * bound}, {at(0, 0), at(bound, bound-1), 14*bound - 4, bound},
		{at(minInt, maxInt), at(maxInt, minInt), 28 * bound, 2 * bound}, {at(maxInt, 0), at(bound, 0), 0, 0}, {at(0, bound+1), at(0, bound+7), 0, 0}, {at(bound+9, 0), at(0, 0), 10 * bound, bound}, {at(0, 0), at(0, minInt), 10 * bound, bound}, {at(minInt, minInt), at(0, 1-bound), 14 + 10*(bound-1), bound},
	}
	for _, c := range cases {
		if n := grid.Octile(c.a, c.b); n != c.octile {
			t.Errorf("Octile(%v, %v) = %d, want %d", c.a, c.b, n, c.octile)
		}
		if n := grid.Chebyshev(c.a, c.b); n != c.chebyshev {
			t.Errorf("Chebyshev(%v, %v) = %d, want %d", c.a, c.b, n, c.chebyshev)
		}
	}
}

// P6.4
func TestDistancesOfAllSizes(t *testing.T) {
	for _, a := range cells() {
		for _, b := range cells() {
			p, q := nearestCell(a), nearestCell(b)
			dx, dy := max(p.X-q.X, q.X-p.X), max(p.Y-q.Y, q.Y-p.Y)
			if n, want := grid.Octile(a, b), 14*min(dx, dy)+10*(max(dx, dy)-min(dx, dy)); n != want {
				t.Fatalf("Octile(%v, %v) = %d, want %d", a, b, n, want)
			}
			if n, want := grid.Chebyshev(a, b), max(dx, dy); n != want {
				t.Fatalf("Chebyshev(%v, %v) = %d, want %d", a, b, n, want)
			}
		}
	}
}

// P6.6
func TestDistancesInBothOrders(t *testing.T) {
	for _, a := range cells() {
		for _, b := range cells() {
			if grid.Octile(a, b) != grid.Octile(b, a) || grid.Chebyshev(a, b) != grid.Chebyshev(b, a) {
				t.Fatalf("the distances of %v and %v depend on the order", a, b)
			}
		}
	}
}

// P6.6, for cells whose neighbors are not replaced by others
func TestStepsAreUndone(t *testing.T) {
	for _, p := range cells() {
		p = at(max(1-bound, min(p.X, bound-1)), max(1-bound, min(p.Y, bound-1)))
		for dir := range 8 {
			if q := grid.Step(grid.Step(p, dir), (dir+4)%8); q != p {
				t.Fatalf("a step from %v in the direction %d and back leads to %v", p, dir, q)
			}
		}
	}
}

// P6.7
func TestIndexesOfGrids(t *testing.T) {
	for w := 1; w <= 32; w++ {
		for h := 1; h <= 32; h++ {
			found := make([]bool, w*h)
			for x := range w {
				for y := range h {
					n := grid.Index(w, at(x, y))
					if n < 0 || n >= w*h || found[n] {
						t.Fatalf("Index(%d, (%d, %d)) = %d, which is too great or there twice", w, x, y, n)
					}
					found[n] = true
					if p := grid.At(w, n); p != at(x, y) {
						t.Fatalf("At(%d, Index(%d, (%d, %d))) = %v", w, w, x, y, p)
					}
				}
			}
		}
	}
}
