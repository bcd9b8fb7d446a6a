package occupy_test

import (
	"math/rand"
	"slices"
	"testing"

	"skirmish/api"
	"skirmish/occupy"
	"skirmish/terrain"
)

// checkRing compares the result of Ring with the definition.
func checkRing(t *testing.T, m api.Map, r api.Rect) {
	t.Helper()
	var want []api.Pos
	for y := range m.H {
		for x := range m.W {
			near := false
			for _, d := range [][2]int{{-1, -1}, {-1, 0}, {-1, 1}, {0, -1}, {0, 1}, {1, -1}, {1, 0}, {1, 1}} {
				near = near || inside(r, at(x+d[0], y+d[1]))
			}
			if near && !inside(r, at(x, y)) {
				want = append(want, at(x, y))
			}
		}
	}
	if got := occupy.Ring(m, r); !slices.Equal(got, want) {
		t.Fatalf("Ring of %v in a map of %d by %d cells is %v, want %v", r, m.W, m.H, got, want)
	}
}

// P13.4: rings drawn by hand.
func TestRing(t *testing.T) {
	cases := []struct {
		r    api.Rect
		want []string
	}{
		{rect(1, 1, 1, 1), []string{"xxx..", "x.x..", "xxx..", "....."}},
		{rect(1, 1, 2, 2), []string{"xxxx.", "x..x.", "x..x.", "xxxx."}},
		{rect(0, 0, 1, 1), []string{".x...", "xx...", ".....", "....."}},
		{rect(4, 3, 1, 1), []string{".....", ".....", "...xx", "...x."}},
		{rect(0, 0, 5, 4), []string{".....", ".....", ".....", "....."}},
		{rect(0, 0, 5, 2), []string{".....", ".....", "xxxxx", "....."}},
		{rect(2, 0, 1, 4), []string{".x.x.", ".x.x.", ".x.x.", ".x.x."}},
		{rect(0, 0, 4, 3), []string{"....x", "....x", "....x", "xxxxx"}},
		// Rectangles that are partly or entirely outside.
		{rect(-1, -1, 1, 1), []string{"x....", ".....", ".....", "....."}},
		{rect(-1, -1, 2, 2), []string{".x...", "xx...", ".....", "....."}},
		{rect(-1, 1, 1, 1), []string{"x....", "x....", "x....", "....."}},
		{rect(5, 4, 3, 3), []string{".....", ".....", ".....", "....x"}},
		{rect(1, 4, 1, 2), []string{".....", ".....", ".....", "xxx.."}},
		{rect(-2, 0, 1, 4), []string{".....", ".....", ".....", "....."}},
		{rect(6, 0, 1, 4), []string{".....", ".....", ".....", "....."}},
		{rect(-9, -9, 99, 99), []string{".....", ".....", ".....", "....."}},
		// Empty rectangles.
		{rect(1, 1, 0, 2), []string{".....", ".....", ".....", "....."}},
		{rect(1, 1, 2, 0), []string{".....", ".....", ".....", "....."}},
		{rect(3, 3, -2, -2), []string{".....", ".....", ".....", "....."}},
		// Distant numbers are replaced, as in layer 6.
		{rect(minInt, 1, maxInt, 1), []string{"x....", "x....", "x....", "....."}},
		{rect(-bound+2, 1, maxInt, 1), []string{"xxx..", "..x..", "xxx..", "....."}},
		{rect(4, minInt, maxInt, maxInt), []string{"...xx", ".....", ".....", "....."}},
		{rect(0, 3, maxInt, maxInt), []string{".....", ".....", "xxxxx", "....."}},
		{rect(maxInt, maxInt, maxInt, maxInt), []string{".....", ".....", ".....", "....."}},
	}
	m := flat(5, 4)
	for _, c := range cases {
		ring := occupy.Ring(m, c.r)
		if got := picture(m, func(p api.Pos) bool { return slices.Contains(ring, p) }); !slices.Equal(got, c.want) {
			t.Errorf("Ring of %v is %q, want %q", c.r, got, c.want)
		}
	}
}

// P13.4: rows from north to south, each from west to east.
func TestRingOrder(t *testing.T) {
	if ring, want := occupy.Ring(flat(3, 3), rect(0, 0, 1, 1)), []api.Pos{at(1, 0), at(0, 1), at(1, 1)}; !slices.Equal(ring, want) {
		t.Errorf("Ring = %v, want %v", ring, want)
	}
	want := []api.Pos{at(1, 0), at(2, 0), at(3, 0), at(4, 0), at(1, 1), at(4, 1), at(1, 2), at(2, 2), at(3, 2), at(4, 2)}
	if ring := occupy.Ring(flat(6, 4), rect(2, 1, 2, 1)); !slices.Equal(ring, want) {
		t.Errorf("Ring = %v, want %v", ring, want)
	}
}

// P13.4: all rectangles near maps, odd ones, and terrain, which does not matter.
func TestRingOfAllRectangles(t *testing.T) {
	for _, r := range around(4, 3) {
		checkRing(t, flat(4, 3), r)
	}
	for _, r := range around(1, 1) {
		checkRing(t, flat(1, 1), r)
	}
	for _, r := range append(odd(), rect(3, 3, 4, 2), rect(0, 0, 32, 32), rect(1, 1, 30, 30), rect(31, 0, 1, 32)) {
		checkRing(t, flat(5, 4), r)
		checkRing(t, wild(), r)
		checkRing(t, flat(32, 32), r)
	}
	random := rand.New(rand.NewSource(4))
	for _, r := range randomRects(random, 300) {
		checkRing(t, randomMap(random, 1+random.Intn(12), 1+random.Intn(12)), r)
	}
}

// octile is the distance of chapter 6, which replaces distant numbers.
func octile(a, b api.Pos) int {
	size := func(n, m int) int {
		n, m = min(max(n, -bound), bound), min(max(m, -bound), bound)
		return max(n-m, m-n)
	}
	dx, dy := size(a.X, b.X), size(a.Y, b.Y)
	return 14*min(dx, dy) + 10*(max(dx, dy)-min(dx, dy))
}

// checkSpots compares the result of Spots with the definition: the open positions, ordered by numbers made of distances and indexes.
func checkSpots(t *testing.T, m api.Map, blocked []bool, class int, from api.Pos) {
	t.Helper()
	var keys []int
	for i := range m.Cells {
		p := at(i%m.W, i/m.W)
		if terrain.Passable(m, class, p) && (class == 3 || i >= len(blocked) || !blocked[i]) {
			keys = append(keys, octile(p, from)*len(m.Cells)+i)
		}
	}
	slices.Sort(keys)
	spots := occupy.Spots(m, blocked, class, from)
	if len(spots) != len(keys) {
		t.Fatalf("Spots for the class %d from %v in a map of %d by %d cells returns %d positions, want %d", class, from, m.W, m.H, len(spots), len(keys))
	}
	for n, key := range keys {
		i := key % len(m.Cells)
		if want := at(i%m.W, i/m.W); spots[n] != want {
			t.Fatalf("the position %d of Spots for the class %d from %v in a map of %d by %d cells is %v, want %v", n, class, from, m.W, m.H, spots[n], want)
		}
	}
}

// P13.5: lists written by hand.
func TestSpots(t *testing.T) {
	m := drawn("..~", ".$3", "#.*")
	cases := []struct {
		class   int
		blocked []bool
		from    api.Pos
		want    []api.Pos
	}{
		{api.CFoot, nil, at(0, 0), []api.Pos{at(0, 0), at(1, 0), at(0, 1), at(1, 1), at(2, 1), at(1, 2)}},
		{api.CFoot, nil, at(2, 2), []api.Pos{at(2, 1), at(1, 2), at(1, 1), at(1, 0), at(0, 1), at(0, 0)}},
		{api.CHover, nil, at(2, 0), []api.Pos{at(2, 0), at(1, 0), at(2, 1), at(1, 1), at(0, 0), at(0, 1), at(1, 2)}},
		{api.CFly, nil, at(1, 1), []api.Pos{at(1, 1), at(1, 0), at(0, 1), at(2, 1), at(1, 2), at(0, 0), at(2, 0), at(0, 2), at(2, 2)}},
		{api.CFoot, []bool{true, false, true, false, true}, at(0, 0), []api.Pos{at(1, 0), at(0, 1), at(2, 1), at(1, 2)}},
		{api.CHover, []bool{false, true, true}, at(2, 0), []api.Pos{at(2, 1), at(1, 1), at(0, 0), at(0, 1), at(1, 2)}},
		{api.CFly, slices.Repeat([]bool{true}, 9), at(0, -1), []api.Pos{at(0, 0), at(1, 0), at(0, 1), at(2, 0), at(1, 1), at(2, 1), at(0, 2), at(1, 2), at(2, 2)}},
		{api.CFoot, slices.Repeat([]bool{true}, 9), at(0, 0), nil},
		{api.CHover, slices.Repeat([]bool{true}, 9), at(0, 0), nil},
		{api.CFoot, slices.Concat(slices.Repeat([]bool{true}, 7), []bool{false, true, true, true}), at(0, 0), []api.Pos{at(1, 2)}},
		{0, nil, at(0, 0), nil}, {4, nil, at(0, 0), nil}, {-1, nil, at(0, 0), nil}, {maxInt, nil, at(0, 0), nil}, {minInt, nil, at(0, 0), nil},
		// Positions outside, and distant ones, whose numbers are replaced.
		{api.CFoot, nil, at(5, 1), []api.Pos{at(2, 1), at(1, 1), at(1, 0), at(1, 2), at(0, 1), at(0, 0)}},
		{api.CFoot, nil, at(maxInt, 0), []api.Pos{at(2, 1), at(1, 0), at(1, 1), at(1, 2), at(0, 0), at(0, 1)}},
		{api.CFoot, nil, at(minInt, minInt), []api.Pos{at(0, 0), at(1, 0), at(0, 1), at(1, 1), at(2, 1), at(1, 2)}},
	}
	for _, c := range cases {
		if got := occupy.Spots(m, c.blocked, c.class, c.from); !slices.Equal(got, c.want) {
			t.Errorf("Spots for the class %d from %v with %v is %v, want %v", c.class, c.from, c.blocked, got, c.want)
		}
	}
	want := []api.Pos{at(0, 0), at(1, 0), at(0, 1), at(1, 1), at(2, 0), at(0, 2), at(2, 1), at(1, 2), at(2, 2)}
	if got := occupy.Spots(flat(3, 3), nil, api.CFoot, at(0, 0)); !slices.Equal(got, want) {
		t.Errorf("Spots of flat ground is %v, want %v", got, want)
	}
}

// P13.5: the distances are not those of steps, so that rocks do not matter.
func TestSpotsBehindRocks(t *testing.T) {
	m := drawn(".#.", "##.", "...")
	if got, want := occupy.Spots(m, nil, api.CFoot, at(0, 0)), []api.Pos{at(0, 0), at(2, 0), at(0, 2), at(2, 1), at(1, 2), at(2, 2)}; !slices.Equal(got, want) {
		t.Errorf("Spots = %v, want %v", got, want)
	}
}

// P13.5: all classes, from all sides, in random maps with random cells blocked.
func TestSpotsOfRandomMaps(t *testing.T) {
	random := rand.New(rand.NewSource(5))
	for range 400 {
		m := randomMap(random, 1+random.Intn(8), 1+random.Intn(8))
		blocked := make([]bool, random.Intn(70))
		for i := range blocked {
			blocked[i] = random.Intn(3) == 0
		}
		for class := range 5 {
			checkSpots(t, m, blocked, class, at(random.Intn(m.W), random.Intn(m.H)))
			checkSpots(t, m, blocked, class, at(random.Intn(24)-8, random.Intn(24)-8))
		}
	}
	far := []int{minInt, -bound - 1, -bound, -40, -1, 3, 40, bound, bound + 1, maxInt}
	for _, x := range far {
		for _, y := range far {
			checkSpots(t, randomMap(random, 5, 6), nil, api.CHover, at(x, y))
			checkSpots(t, wild(), nil, api.CFly, at(x, y))
		}
	}
}

// P13.5: the greatest map.
func TestSpotsOfLargeMaps(t *testing.T) {
	random := rand.New(rand.NewSource(6))
	for _, from := range []api.Pos{at(0, 0), at(31, 31), at(16, 15), at(-9, 40)} {
		checkSpots(t, flat(32, 32), nil, api.CFoot, from)
		checkSpots(t, randomMap(random, 32, 31), occupy.Blocked(flat(32, 31), []api.Rect{rect(4, 4, 9, 9)}), api.CHover, from)
	}
}

// P13.8
func TestSpotsOccurOnce(t *testing.T) {
	random := rand.New(rand.NewSource(8))
	for range 200 {
		m := randomMap(random, 1+random.Intn(12), 1+random.Intn(12))
		blocked := occupy.Blocked(m, randomRects(random, random.Intn(6)))
		for class := api.CFoot; class <= api.CFly; class++ {
			count := map[api.Pos]int{}
			for _, p := range occupy.Spots(m, blocked, class, at(random.Intn(12), random.Intn(12))) {
				count[p]++
			}
			for i := range m.Cells {
				p, want := at(i%m.W, i/m.W), 0
				if terrain.Passable(m, class, p) && (class == api.CFly || !blocked[i]) {
					want = 1
				}
				if count[p] != want {
					t.Fatalf("Spots for the class %d contains %v %d times", class, p, count[p])
				}
				delete(count, p)
			}
			if len(count) != 0 {
				t.Fatalf("Spots for the class %d contains positions outside: %v", class, count)
			}
		}
	}
}
