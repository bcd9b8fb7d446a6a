package shadow_test

import (
	"math/rand"
	"slices"
	"testing"

	"skirmish/api"
	"skirmish/shadow"
)

// P12.3: views drawn by hand.
func TestVisiblePictures(t *testing.T) {
	cases := []struct {
		m      api.Map
		from   api.Pos
		radius int
		high   bool
		want   []string
	}{
		{drawn("....."), at(2, 0), 1, false, []string{"-ooo-"}},
		{drawn(".#..."), at(0, 0), 9, false, []string{"oo---"}},
		{drawn(".*..."), at(0, 0), 9, false, []string{"oo---"}},
		{drawn(".~..."), at(0, 0), 9, false, []string{"ooooo"}},
		{drawn(".#..."), at(0, 0), 3, true, []string{"oooo-"}},
		{drawn(".#..."), at(1, 0), 2, false, []string{"oooo-"}},
		{drawn("01020"), at(0, 0), 4, false, []string{"oo-o-"}},
		{drawn("01120"), at(1, 0), 4, false, []string{"oooo-"}},
		{drawn("10231"), at(4, 0), 4, false, []string{"---oo"}},
		{drawn("....", "....", "....", "...."), at(0, 0), 3, false, []string{"oooo", "ooo-", "ooo-", "o---"}},
		{drawn("....", "....", "....", "...."), at(1, 2), 0, true, []string{"----", "----", "-o--", "----"}},
		{drawn(".....", ".....", "..#..", ".....", "....."), at(2, 1), 2, false, []string{"-ooo-", "ooooo", "-ooo-", "-----", "-----"}},
		{drawn(".....", ".###.", ".#.#.", ".###.", "....."), at(2, 2), 5, false, []string{"-----", "-ooo-", "-ooo-", "-ooo-", "-----"}},
		{drawn("..#..", ".....", "#...#", ".....", "..#.."), at(2, 2), 5, false, []string{"ooooo", "ooooo", "ooooo", "ooooo", "ooooo"}},
		{drawn("..#.", "....", "....", "...."), at(1, 0), 5, false, []string{"ooo-", "ooo-", "oooo", "oooo"}},
	}
	for _, c := range cases {
		if got := picture(c.m, shadow.Visible(c.m, c.from, c.radius, c.high)); !slices.Equal(got, c.want) {
			t.Errorf("from %v with the radius %d and high %v one sees %q, want %q", c.from, c.radius, c.high, got, c.want)
		}
	}
}

// P12.3: all cells, radii and both values of high, in random maps.
func TestVisible(t *testing.T) {
	random := rand.New(rand.NewSource(10))
	for round := range 40 {
		m := randomMap(random, 1+random.Intn(9), 1+random.Intn(9), 1+round%12)
		for _, from := range positions(m) {
			for radius := range 13 {
				for _, high := range []bool{false, true} {
					if got := shadow.Visible(m, from, radius, high); !slices.Equal(got, visible(m, from, radius, high)) {
						t.Fatalf("in %v, Visible from %v with %d and %v is %v", m, from, radius, high, got)
					}
				}
			}
		}
	}
}

// P12.3: large maps.
func TestVisibleFar(t *testing.T) {
	random := rand.New(rand.NewSource(11))
	sides := [][2]int{{32, 32}, {32, 31}, {17, 32}, {32, 1}, {1, 32}, {32, 2}}
	for round := range 2 * len(sides) {
		m := randomMap(random, sides[round%6][0], sides[round%6][1], 20+30*round)
		corner := at(m.W-1, m.H-1)
		for _, from := range []api.Pos{at(0, 0), corner, at(0, m.H/2), randomPosition(random, m)} {
			radius := []int{32, 31, 20, 7}[random.Intn(4)]
			if got := shadow.Visible(m, from, radius, false); !slices.Equal(got, visible(m, from, radius, false)) {
				t.Fatalf("in %v, Visible from %v with %d is %v", m, from, radius, got)
			}
		}
	}
}

// P12.3: greater radii count as 32, which does not reach all cells of a map.
func TestVisibleRadius(t *testing.T) {
	m := flat(32, 32)
	for _, from := range []api.Pos{at(0, 0), at(31, 31), at(31, 0), at(0, 31), at(16, 15), at(4, 30)} {
		for radius := range 33 {
			want := visible(m, from, radius, true)
			if !slices.Equal(shadow.Visible(m, from, radius, false), want) || !slices.Equal(shadow.Visible(m, from, radius, true), want) {
				t.Errorf("Visible from %v with the radius %d", from, radius)
			}
		}
		want := visible(m, from, 32, true)
		for _, radius := range []int{33, 34, 44, 64, 1000, 1 << 31, 1 << 32, 1<<32 + 3, maxInt - 1, maxInt} {
			if !slices.Equal(shadow.Visible(m, from, radius, false), want) || !slices.Equal(shadow.Visible(m, from, radius, true), want) {
				t.Errorf("Visible from %v with the radius %d", from, radius)
			}
		}
	}
	l := shadow.Visible(m, at(0, 0), maxInt, true)
	if !l[31] || !l[31*32] || !l[22*32+23] || l[23*32+23] || l[31*32+31] {
		t.Error("the cells at the radius 32")
	}
}

// P12.3: nothing is returned from outside or with a negative radius.
func TestVisibleNothing(t *testing.T) {
	m := flat(4, 3)
	for _, high := range []bool{false, true} {
		for _, from := range outside(4, 3) {
			for _, radius := range []int{0, 1, 5, 32, maxInt, -1} {
				if l := shadow.Visible(m, from, radius, high); len(l) != 0 {
					t.Errorf("Visible from %v with the radius %d: %v", from, radius, l)
				}
			}
		}
		for _, from := range positions(m) {
			for _, radius := range []int{-1, -2, -32, -33, -1 << 32, minInt + 1, minInt} {
				if l := shadow.Visible(m, from, radius, high); len(l) != 0 {
					t.Errorf("Visible from %v with the radius %d: %v", from, radius, l)
				}
			}
		}
	}
}

// P12.6: a greater radius shows more cells, and so does high.
func TestMonotony(t *testing.T) {
	random := rand.New(rand.NewSource(12))
	contains := func(more, fewer []bool) bool {
		for i, ok := range fewer {
			if ok && !more[i] {
				return false
			}
		}
		return true
	}
	for round := range 60 {
		m := randomMap(random, 1+random.Intn(32), 1+random.Intn(32), 1+round)
		from := randomPosition(random, m)
		var low, high []bool
		for radius := range 36 {
			nextLow, nextHigh := shadow.Visible(m, from, radius, false), shadow.Visible(m, from, radius, true)
			if !contains(nextLow, low) || !contains(nextHigh, high) || !contains(nextHigh, nextLow) {
				t.Fatalf("in %v, the radius %d around %v does not show more", m, radius, from)
			}
			low, high = nextLow, nextHigh
		}
	}
}

// P12.3: results do not share memory.
func TestVisibleIsNew(t *testing.T) {
	m := flat(3, 2)
	first := shadow.Visible(m, at(0, 0), 9, true)
	first[0] = false
	if second := shadow.Visible(m, at(0, 0), 9, true); len(second) != 6 || !second[0] {
		t.Error("a change of a result changes the next one")
	}
}

// P12.4: all pairs of lists of up to four elements.
func TestUnion(t *testing.T) {
	var lists [][]bool
	for length := range 5 {
		for bits := range 1 << length {
			list := make([]bool, length)
			for i := range list {
				list[i] = bits>>i&1 == 1
			}
			lists = append(lists, list)
		}
	}
	for _, a := range append(lists, nil) {
		for _, b := range append(lists, nil) {
			want := make([]bool, max(len(a), len(b)))
			for i := range want {
				want[i] = i < len(a) && a[i] || i < len(b) && b[i]
			}
			if got := shadow.Union(a, b); !slices.Equal(got, want) {
				t.Errorf("Union of %v and %v is %v", a, b, got)
			}
		}
	}
}

// P12.4: the lists stay as they are, and the result is new, even if there is room behind a list or one of them is empty.
func TestUnionIsNew(t *testing.T) {
	room := []bool{true, false, false, true}
	a, b := room[:2], []bool{false, true, true}
	for _, union := range [][]bool{shadow.Union(a, b), shadow.Union(b, a), shadow.Union(a, nil), shadow.Union(nil, a), shadow.Union(a, a), shadow.Union(nil, b), shadow.Union(b, b[:1])} {
		for i := range union {
			union[i] = !union[i]
		}
	}
	if !slices.Equal(room, []bool{true, false, false, true}) || !slices.Equal(b, []bool{false, true, true}) {
		t.Errorf("the lists are %v and %v now", room, b)
	}
}
