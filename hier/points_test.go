package hier_test

import (
	"math/rand"
	"slices"
	"testing"

	"skirmish/api"
	"skirmish/hier"
)

// P16.4: lists found by hand.
func TestPoints(t *testing.T) {
	cases := []struct{ path, points []api.Pos }{
		{nil, nil},
		{[]api.Pos{}, nil},
		{cells(5, 0), cells(5, 0)},
		{cells(5, 0, 6, 0), cells(5, 0, 6, 0)},
		{cells(5, 0, 5, 0), cells(5, 0, 5, 0)},
		{cells(5, 0, 5, 0, 5, 0), cells(5, 0, 5, 0)},
		{cells(0, 0, 1, 0, 2, 0, 3, 1, 4, 2), cells(0, 0, 2, 0, 4, 2)},
		{cells(0, 0, 1, 1, 1, 2, 1, 3, 0, 4), cells(0, 0, 1, 1, 1, 3, 0, 4)},
		{cells(0, 0, 1, 0, 0, 0, 1, 0), cells(0, 0, 1, 0, 0, 0, 1, 0)},
		{cells(0, 0, 1, 0, 3, 0, 5, 0, 6, 0), cells(0, 0, 1, 0, 5, 0, 6, 0)},
		{cells(0, 0, 3, -7, 6, -14, 9, -21), cells(0, 0, 9, -21)},
		{cells(2, 2, 2, 2, 3, 2, 4, 2), cells(2, 2, 2, 2, 4, 2)},
		// The difference from maxInt to minInt is 1, and that of both to 0 is half of 2^64.
		{cells(maxInt-1, 0, maxInt, 0, minInt, 0, minInt+1, 0), cells(maxInt-1, 0, minInt+1, 0)},
		{cells(0, minInt, 0, 0, 0, minInt, 0, 0), cells(0, minInt, 0, 0)},
		{cells(0, minInt, 0, -1, 0, maxInt-1), cells(0, minInt, 0, maxInt-1)},
		{cells(0, minInt, 0, -1, 0, maxInt), cells(0, minInt, 0, -1, 0, maxInt)},
	}
	for _, c := range cases {
		if points := hier.Points(c.path); !slices.Equal(points, c.points) {
			t.Errorf("Points of %v is %v, want %v", c.path, points, c.points)
		}
	}
}

// P16.4: random lists with few differences, whose points are found by their number of equal steps.
func TestPointsOfRandomLists(t *testing.T) {
	random := rand.New(rand.NewSource(165))
	for range 500 {
		p := at(random.Intn(9), minInt+random.Intn(9))
		path, want := []api.Pos{p}, []api.Pos{p}
		last := at(0, 0)
		for range random.Intn(9) {
			step := at(random.Intn(2)-1, (random.Intn(2)-1)*maxInt)
			if step == last {
				want = want[:len(want)-1]
			}
			last = step
			count := 1 + random.Intn(4)
			for range count {
				p = at(p.X+step.X, p.Y+step.Y)
				path = append(path, p)
			}
			if len(want) == 0 {
				want = path[:1:1]
			}
			want = append(want, p)
		}
		given := slices.Clone(path)
		points := hier.Points(path)
		if !slices.Equal(points, want) {
			t.Fatalf("Points of %v is %v, want %v", path, points, want)
		}
		clear(points)
		if !slices.Equal(path, given) {
			t.Fatalf("Points has changed %v to %v, or shares its memory", given, path)
		}
	}
}
