package cluster_test

import (
	"math/rand"
	"slices"
	"testing"

	"skirmish/api"
	"skirmish/cluster"
)

// checkTouched compares the result of Touched with a list, and checks that the cells stay as they are.
func checkTouched(t *testing.T, m api.Map, list []api.Pos, want []int) {
	t.Helper()
	old := slices.Clone(list)
	if l := cluster.Touched(m, list); !slices.Equal(l, want) {
		t.Fatalf("Touched by %v in %d by %d cells: %v, want %v", list, m.W, m.H, l, want)
	}
	if !slices.Equal(list, old) {
		t.Fatalf("Touched changed the cells %v into %v", old, list)
	}
}

// P15.4: lists found by hand.
func TestTouched(t *testing.T) {
	cases := []struct {
		w, h int
		list []api.Pos
		want []int
	}{
		{10, 9, nil, nil},
		{10, 9, cells(0, 0), []int{0}},
		{10, 9, cells(6, 6), []int{0}},
		{10, 9, cells(7, 6), []int{0, 1}},
		{10, 9, cells(6, 7), []int{0, 2}},
		{10, 9, cells(7, 7), []int{0, 1, 2, 3}},
		{10, 9, cells(8, 8), []int{0, 1, 2, 3}},
		{10, 9, cells(9, 6), []int{1}},
		{10, 9, cells(9, 7), []int{1, 3}},
		{10, 9, cells(0, 8), []int{0, 2}},
		{10, 9, cells(9, 8), []int{1, 3}},
		// Several cells, in any order and more than once.
		{10, 9, cells(9, 8, 0, 0), []int{0, 1, 3}},
		{10, 9, cells(9, 0, 0, 0, 9, 0, 9, 0), []int{0, 1}},
		{32, 32, cells(31, 31, 12, 12, 0, 0, 20, 4), []int{0, 2, 5, 15}},
		{32, 32, cells(31, 0, 0, 15), []int{3, 4, 8}},
		{8, 8, cells(7, 7, 0, 0, 7, 0), []int{0}},
		// Cells outside, also beside cells of the map.
		{10, 9, cells(-1, 0), nil},
		{10, 9, cells(10, 8, 9, 9, 10, 9, 0, -1), nil},
		{10, 9, cells(-1, 0, 9, 0, 10, 8), []int{1}},
		{8, 8, cells(8, 0), nil},
	}
	for _, c := range cases {
		checkTouched(t, flat(c.w, c.h), c.list, c.want)
	}
}

// P15.4: each cell of maps of all sorts of sizes, and random lists with cells outside.
func TestTouchedOfManyMaps(t *testing.T) {
	random := rand.New(rand.NewSource(154))
	for _, w := range sizes() {
		for _, h := range sizes() {
			d := model{m: randomMap(random, w, h, 5)}
			for i := range d.m.Cells {
				if i%7 == w%7 || w*h < 100 {
					checkTouched(t, d.m, []api.Pos{d.at(i)}, d.touched([]api.Pos{d.at(i)}))
				}
			}
			for n := range 6 {
				var list []api.Pos
				for range n {
					list = append(list, at(random.Intn(w+4)-2, random.Intn(h+4)-2))
				}
				checkTouched(t, d.m, list, d.touched(list))
			}
		}
	}
}

// P15.4: cells far outside, and maps that are not valid.
func TestTouchedOfInvalid(t *testing.T) {
	for _, w := range sizes() {
		checkTouched(t, flat(w, w), outside(w, w), nil)
	}
	for _, m := range invalidMaps() {
		checkTouched(t, m, cells(0, 0, 1, 1), nil)
		checkTouched(t, m, nil, nil)
	}
}
