package cluster_test

import (
	"slices"
	"testing"

	"skirmish/api"
	"skirmish/cluster"
)

// P15.1: the example of the chapter.
func TestAreaExample(t *testing.T) {
	m := flat(10, 9)
	if n, k := cluster.Count(m), cluster.Of(m, at(8, 3)); n != 4 || k != 1 {
		t.Errorf("Count is %d, Of is %d", n, k)
	}
	for i, want := range []api.Rect{{X: 0, Y: 0, W: 8, H: 8}, {X: 8, Y: 0, W: 2, H: 8}, {X: 0, Y: 8, W: 8, H: 1}, {X: 8, Y: 8, W: 2, H: 1}} {
		if r, ok := cluster.Area(m, i); r != want || !ok {
			t.Errorf("Area of %d is %v, %v, want %v", i, r, ok, want)
		}
	}
}

// P15.1: numbers found by hand.
func TestNumbers(t *testing.T) {
	cases := []struct{ w, h, count int }{
		{1, 1, 1}, {8, 8, 1}, {9, 8, 2}, {8, 9, 2}, {1, 32, 4}, {32, 1, 4}, {16, 16, 4}, {17, 16, 6}, {16, 17, 6}, {31, 25, 16}, {32, 32, 16},
	}
	for _, c := range cases {
		if n := cluster.Count(flat(c.w, c.h)); n != c.count {
			t.Errorf("Count of %d by %d cells is %d, want %d", c.w, c.h, n, c.count)
		}
	}
	for p, want := range map[api.Pos]int{at(0, 0): 0, at(7, 7): 0, at(8, 7): 1, at(16, 0): 2, at(23, 7): 2, at(24, 0): 3, at(7, 8): 4, at(0, 15): 4, at(15, 8): 5, at(16, 15): 6, at(31, 15): 7, at(0, 16): 8, at(8, 24): 13, at(31, 31): 15} {
		if k := cluster.Of(flat(32, 32), p); k != want {
			t.Errorf("Of %v is %d, want %d", p, k, want)
		}
	}
}

// P15.1 and P15.6: in maps of all sorts of sizes, each cell is in one area, which is that of its cluster.
func TestAreas(t *testing.T) {
	for _, w := range sizes() {
		for _, h := range sizes() {
			m := flat(w, h)
			d := model{m: m}
			n := cluster.Count(m)
			if n != d.count() {
				t.Fatalf("Count of %d by %d cells is %d, want %d", w, h, n, d.count())
			}
			owners := map[api.Pos][]int{}
			for i := range n {
				r, ok := cluster.Area(m, i)
				if !ok || r.W < 1 || r.W > 8 || r.H < 1 || r.H > 8 {
					t.Fatalf("Area of %d of %d by %d cells is %v, %v", i, w, h, r, ok)
				}
				for y := r.Y; y < r.Y+r.H; y++ {
					for x := r.X; x < r.X+r.W; x++ {
						owners[at(x, y)] = append(owners[at(x, y)], i)
					}
				}
			}
			if len(owners) != w*h {
				t.Fatalf("the areas of %d by %d cells contain %d cells", w, h, len(owners))
			}
			for i := range m.Cells {
				p := d.at(i)
				if k := cluster.Of(m, p); k != d.of(p) || !slices.Equal(owners[p], []int{k}) {
					t.Fatalf("Of %v in %d by %d cells is %d, want %d; it is in the areas %v", p, w, h, k, d.of(p), owners[p])
				}
			}
			checkNoAreas(t, m, wrong(n))
		}
	}
}

// checkNoAreas checks that a map has no clusters with these numbers.
func checkNoAreas(t *testing.T, m api.Map, numbers []int) {
	t.Helper()
	for _, i := range numbers {
		if r, ok := cluster.Area(m, i); r != (api.Rect{}) || ok {
			t.Errorf("Area of %d in a map of %d by %d cells is %v, %v", i, m.W, m.H, r, ok)
		}
	}
}

// P15.1: positions outside.
func TestOfOutside(t *testing.T) {
	for _, w := range sizes() {
		for _, h := range sizes() {
			for _, p := range outside(w, h) {
				if k := cluster.Of(flat(w, h), p); k != -1 {
					t.Errorf("Of %v in %d by %d cells is %d", p, w, h, k)
				}
			}
		}
	}
}

// P15.1: maps that are not valid.
func TestAreasOfInvalidMaps(t *testing.T) {
	for _, m := range invalidMaps() {
		if n := cluster.Count(m); n != 0 {
			t.Errorf("Count of %v is %d", m, n)
		}
		for _, p := range append(outside(3, 2), cells(0, 0, 1, 0, 2, 1, 8, 8)...) {
			if k := cluster.Of(m, p); k != -1 {
				t.Errorf("Of %v in %v is %d", p, m, k)
			}
		}
		checkNoAreas(t, m, wrong(1))
		checkNoAreas(t, m, []int{0, 1, 2})
	}
}

// P15.1: terrain and its heights do not matter, as long as they are valid.
func TestAreasOfTerrain(t *testing.T) {
	m := drawn("~#*$3", "0~#*$", "~~~~~")
	if n, k := cluster.Count(m), cluster.Of(m, at(1, 1)); n != 1 || k != 0 {
		t.Errorf("Count is %d, Of is %d", n, k)
	}
	if r, ok := cluster.Area(m, 0); r != (api.Rect{W: 5, H: 3}) || !ok {
		t.Errorf("Area is %v, %v", r, ok)
	}
}
