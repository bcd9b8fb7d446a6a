package occupy_test

import (
	"math"
	"math/rand"
	"slices"
	"strings"
	"testing"

	"skirmish/api"
	"skirmish/grid"
	"skirmish/occupy"
)

const (
	maxInt = math.MaxInt
	minInt = math.MinInt
	bound  = 1 << 20
)

func at(x, y int) api.Pos { return api.Pos{X: x, Y: y} }

func rect(x, y, w, h int) api.Rect { return api.Rect{X: x, Y: y, W: w, H: h} }

func flat(w, h int) api.Map {
	return api.Map{W: w, H: h, Cells: slices.Repeat([]api.Cell{{Kind: api.TGround}}, w*h)}
}

// kinds are those of the characters in drawn maps.
func kinds() map[rune]int {
	return map[rune]int{'~': api.TWater, '#': api.TRock, '*': api.TForest, '$': api.TOre}
}

// drawn returns a map from its rows: a digit is ground of that height, a character of kinds the height 0, and a point flat ground.
func drawn(rows ...string) api.Map {
	m := flat(len(rows[0]), len(rows))
	for i, char := range strings.Join(rows, "") {
		if kind, ok := kinds()[char]; ok {
			m.Cells[i].Kind = kind
		} else if char != '.' {
			m.Cells[i].Height = int(char - '0')
		}
		if char == '*' || char == '$' {
			m.Cells[i].Amount = 9
		}
	}
	return m
}

// picture returns the rows of m, in which a cell that is marked is an x.
func picture(m api.Map, marked func(p api.Pos) bool) []string {
	var rows []string
	for y := range m.H {
		row := make([]byte, m.W)
		for x := range m.W {
			row[x] = '.'
			if marked(at(x, y)) {
				row[x] = 'x'
			}
		}
		rows = append(rows, string(row))
	}
	return rows
}

// unformed returns maps that are not formed.
func unformed() []api.Map {
	ground := flat(32, 32).Cells
	return []api.Map{
		{}, {W: 1, H: 1}, {Cells: ground[:1]}, {W: 2}, {H: 2, Cells: ground[:2]}, {W: 2, H: 2, Cells: ground[:3]}, {W: 2, H: 2, Cells: ground[:5]},
		{W: 33, H: 1, Cells: ground[:33]}, {W: 1, H: 33, Cells: ground[:33]}, {W: 64, H: 16, Cells: ground}, {W: 32, H: 32, Cells: ground[:1023]},
		{W: 64, H: 64}, {W: 64, H: 64, Cells: slices.Repeat(ground, 4)}, {W: 1000, H: 2},
		{W: -1, H: -1, Cells: ground[:1]}, {W: -2, H: 2}, {W: 1 << 32, H: 1 << 32}, {W: minInt, H: minInt}, {W: maxInt, H: maxInt, Cells: ground[:1]},
	}
}

// wild returns a formed map whose cells are not valid, except for the last one.
func wild() api.Map {
	return api.Map{W: 3, H: 2, Cells: []api.Cell{{}, {Kind: 6}, {Kind: -1, Height: minInt}, {Kind: maxInt, Height: maxInt}, {Kind: minInt, Amount: -1}, {Kind: api.TGround}}}
}

// inside tells by the words of chapter 6 whether p is in r; the cells of maps and their neighbors are not replaced.
func inside(r api.Rect, p api.Pos) bool {
	near := func(n int) int { return min(max(n, -bound), bound) }
	x, y, w, h := near(r.X), near(r.Y), near(r.W), near(r.H)
	return x <= p.X && p.X < x+w && y <= p.Y && p.Y < y+h
}

// odd returns rectangles with numbers around the bounds.
func odd() []api.Rect {
	numbers := []int{minInt, minInt + 1, -1 << 32, -bound - 1, -bound, -bound + 1, -bound + 3, -2, -1, 0, 1, 2, 3, bound - 1, bound, bound + 1, 1 << 32, maxInt - 1, maxInt}
	var list []api.Rect
	for _, x := range numbers {
		for _, w := range numbers {
			list = append(list, rect(x, 1, w, 2), rect(1, x, 2, w), rect(x, x, w, w), rect(x, -3, maxInt, w))
		}
	}
	return list
}

// around returns all rectangles near a map of w by h cells.
func around(w, h int) []api.Rect {
	var list []api.Rect
	for x := -2; x <= w+1; x++ {
		for y := -2; y <= h+1; y++ {
			for i := -1; i <= w+3; i++ {
				for j := -1; j <= h+3; j++ {
					list = append(list, rect(x, y, i, j))
				}
			}
		}
	}
	return list
}

// randomMap returns a map that is mostly flat ground.
func randomMap(random *rand.Rand, w, h int) api.Map {
	m := flat(w, h)
	for i := range m.Cells {
		if random.Intn(8) == 0 {
			m.Cells[i] = api.Cell{Kind: 1 + random.Intn(5), Height: random.Intn(4)}
		}
	}
	return m
}

// randomRects returns rectangles that may lie outside a map of 12 by 12 cells, or be empty.
func randomRects(random *rand.Rand, n int) []api.Rect {
	var list []api.Rect
	for range n {
		list = append(list, rect(random.Intn(15)-3, random.Intn(15)-3, random.Intn(5)-1, random.Intn(5)-1))
	}
	return list
}

// checkBlocked compares the result of Blocked with the definition.
func checkBlocked(t *testing.T, m api.Map, l []api.Rect) {
	t.Helper()
	got := occupy.Blocked(m, l)
	if len(got) != m.W*m.H {
		t.Fatalf("Blocked returns %d elements for a map of %d by %d cells", len(got), m.W, m.H)
	}
	for i, b := range got {
		p := at(i%m.W, i/m.W)
		if b != slices.ContainsFunc(l, func(r api.Rect) bool { return inside(r, p) }) {
			t.Fatalf("Blocked with %v in a map of %d by %d cells is %v at %v", l, m.W, m.H, b, p)
		}
	}
}

// P13.1: pictures drawn by hand.
func TestBlocked(t *testing.T) {
	cases := []struct {
		l    []api.Rect
		want []string
	}{
		{nil, []string{"....", "....", "...."}},
		{[]api.Rect{rect(1, 1, 2, 1)}, []string{"....", ".xx.", "...."}},
		{[]api.Rect{rect(2, 0, 1, 2)}, []string{"..x.", "..x.", "...."}},
		{[]api.Rect{rect(-1, 0, 2, 1)}, []string{"x...", "....", "...."}},
		{[]api.Rect{rect(3, 2, 5, 5)}, []string{"....", "....", "...x"}},
		{[]api.Rect{rect(0, -4, 4, 5)}, []string{"xxxx", "....", "...."}},
		{[]api.Rect{rect(0, 0, 4, 3)}, []string{"xxxx", "xxxx", "xxxx"}},
		{[]api.Rect{rect(-9, -9, 30, 30)}, []string{"xxxx", "xxxx", "xxxx"}},
		{[]api.Rect{rect(0, 0, 2, 2), rect(1, 1, 2, 2)}, []string{"xx..", "xxx.", ".xx."}},
		{[]api.Rect{rect(1, 1, 2, 2), rect(0, 0, 2, 2), rect(1, 1, 1, 1)}, []string{"xx..", "xxx.", ".xx."}},
		{[]api.Rect{rect(0, 0, 0, 3), rect(0, 0, 3, 0), rect(2, 2, -2, -2), {}, rect(3, 0, 1, 1)}, []string{"...x", "....", "...."}},
		{[]api.Rect{rect(4, 0, 1, 1), rect(0, 3, 1, 1), rect(-1, 0, 1, 3), rect(0, -1, 4, 1)}, []string{"....", "....", "...."}},
		// Distant numbers are replaced, as in layer 6.
		{[]api.Rect{rect(0, 1, maxInt, 1)}, []string{"....", "xxxx", "...."}},
		{[]api.Rect{rect(minInt, 0, maxInt, 1)}, []string{"....", "....", "...."}},
		{[]api.Rect{rect(-bound+2, 0, maxInt, 1)}, []string{"xx..", "....", "...."}},
		{[]api.Rect{rect(2, -bound+1, 1, maxInt)}, []string{"..x.", "....", "...."}},
		{[]api.Rect{rect(maxInt, 0, maxInt, 3), rect(minInt, 0, 1, 3), rect(0, 0, minInt, 3)}, []string{"....", "....", "...."}},
	}
	m := flat(4, 3)
	for _, c := range cases {
		blocked := occupy.Blocked(m, c.l)
		if len(blocked) != 12 {
			t.Fatalf("Blocked with %v returns %d elements", c.l, len(blocked))
		}
		if got := picture(m, func(p api.Pos) bool { return blocked[4*p.Y+p.X] }); !slices.Equal(got, c.want) {
			t.Errorf("Blocked with %v is %q, want %q", c.l, got, c.want)
		}
	}
}

// P13.1: all rectangles near small maps, lists of them, odd rectangles, and terrain of all kinds.
func TestBlockedOfAllRectangles(t *testing.T) {
	for _, r := range slices.Concat(around(4, 3), odd()) {
		checkBlocked(t, flat(4, 3), []api.Rect{r})
	}
	for _, m := range []api.Map{flat(1, 1), flat(1, 32), flat(32, 1), flat(32, 32), wild()} {
		for _, r := range slices.Concat(odd(), []api.Rect{rect(0, 0, 32, 32), rect(31, 31, 1, 1), rect(1, 1, 30, 30), rect(0, 0, 1, 1), rect(-4, -4, 99, 99)}) {
			checkBlocked(t, m, []api.Rect{r})
		}
	}
	random := rand.New(rand.NewSource(13))
	for n := range 300 {
		checkBlocked(t, randomMap(random, 1+random.Intn(12), 1+random.Intn(12)), randomRects(random, n%9))
	}
}

// P13.1
func TestBlockedOfMapsThatAreNotFormed(t *testing.T) {
	for _, m := range unformed() {
		if l := occupy.Blocked(m, []api.Rect{rect(0, 0, 1, 1)}); len(l) != 0 {
			t.Errorf("Blocked of a map of %d by %d with %d cells: %v", m.W, m.H, len(m.Cells), l)
		}
	}
}

// P13.2: rectangles in a map that is drawn.
func TestFree(t *testing.T) {
	m := drawn(
		"...1~",
		"...11",
		"#.$..",
		".*...")
	blocked := occupy.Blocked(m, []api.Rect{rect(1, 1, 1, 1)})
	cases := []struct {
		r          api.Rect
		open, free bool // without and with the cell that is blocked
	}{
		{rect(0, 0, 1, 1), true, true}, {rect(0, 0, 3, 1), true, true}, {rect(0, 0, 3, 2), true, false}, {rect(1, 1, 1, 1), true, false}, {rect(2, 0, 1, 2), true, true}, {rect(0, 0, 2, 2), true, false}, {rect(0, 1, 3, 1), true, false}, {rect(1, 0, 1, 3), true, false},
		// Heights.
		{rect(3, 0, 1, 2), true, true}, {rect(3, 1, 2, 1), true, true}, {rect(2, 0, 2, 1), false, false}, {rect(3, 1, 1, 2), false, false}, {rect(4, 1, 1, 2), false, false}, {rect(2, 0, 2, 2), false, false},
		// Kinds.
		{rect(4, 0, 1, 1), false, false}, {rect(0, 2, 1, 1), false, false}, {rect(2, 2, 1, 1), false, false}, {rect(1, 3, 1, 1), false, false}, {rect(0, 3, 1, 1), true, true}, {rect(3, 2, 2, 2), true, true}, {rect(2, 2, 3, 2), false, false}, {rect(0, 3, 2, 1), false, false}, {rect(3, 0, 2, 1), false, false}, {rect(0, 1, 1, 2), false, false},
		// Rectangles that do not lie within the map, or are empty.
		{rect(-1, 0, 2, 1), false, false}, {rect(0, -1, 1, 2), false, false}, {rect(4, 2, 2, 1), false, false}, {rect(4, 3, 1, 2), false, false}, {rect(5, 0, 1, 1), false, false}, {rect(0, 4, 1, 1), false, false}, {rect(-1, -1, 1, 1), false, false},
		{rect(0, 0, 0, 1), false, false}, {rect(0, 0, 1, 0), false, false}, {rect(0, 0, 0, 0), false, false}, {rect(1, 1, -1, -1), false, false}, {rect(2, 1, -1, 1), false, false}, {rect(2, 2, 0, 0), false, false},
	}
	for _, c := range cases {
		if free := occupy.Free(m, nil, c.r); free != c.open {
			t.Errorf("Free(%v) without blocked cells = %v", c.r, free)
		}
		if free := occupy.Free(m, blocked, c.r); free != c.free {
			t.Errorf("Free(%v) = %v", c.r, free)
		}
	}
}

// P13.2: all rectangles near flat maps, and those with odd numbers.
func TestFreeLiesWithinTheMap(t *testing.T) {
	for _, side := range [][2]int{{4, 3}, {1, 1}, {1, 4}, {3, 1}, {32, 32}} {
		w, h := side[0], side[1]
		list := []api.Rect{rect(0, 0, w, h), rect(w-1, h-1, 1, 1), rect(1, 0, w, h), rect(0, 1, w, h), rect(0, 0, w+1, h), rect(0, 0, w, h+1)}
		if w < 9 {
			list = append(list, around(w, h)...)
		}
		for _, r := range append(list, odd()...) {
			want := r.W >= 1 && r.H >= 1 && r.X >= 0 && r.Y >= 0 && r.W <= w && r.H <= h && r.X <= w-r.W && r.Y <= h-r.H
			if occupy.Free(flat(w, h), nil, r) != want || occupy.Fits(flat(w, h), nil, r) != want {
				t.Fatalf("in a map of %d by %d cells, Free or Fits of %v is %v", w, h, r, !want)
			}
		}
	}
}

// P13.2: each cell of a rectangle counts, and no other one.
func TestFreeLooksAtItsCells(t *testing.T) {
	r := rect(2, 1, 3, 4)
	for i := range 7 * 6 {
		in := inside(r, at(i%7, i/7))
		for _, c := range []api.Cell{{Kind: api.TWater}, {Kind: api.TRock}, {Kind: api.TForest, Amount: 1}, {Kind: api.TOre, Amount: 1}, {Kind: api.TGround, Height: 1}, {Kind: api.TGround, Height: 3}, {}, {Kind: 6}, {Kind: -1}, {Kind: api.TGround, Height: minInt}} {
			m := flat(7, 6)
			m.Cells[i] = c
			if occupy.Free(m, nil, r) == in {
				t.Errorf("Free with the cell %v at %d is %v", c, i, in)
			}
		}
		blocked := make([]bool, 42)
		blocked[i] = true
		if occupy.Free(flat(7, 6), blocked, r) == in {
			t.Errorf("Free with %d blocked is %v", i, in)
		}
	}
}

// P13.2: a rectangle may have any height, even one that no valid map has, or an amount.
func TestFreeAtAllHeights(t *testing.T) {
	for _, height := range []int{0, 1, 2, 3, 4, -1, maxInt, minInt} {
		m := flat(4, 2)
		for i := range m.Cells {
			m.Cells[i].Height = height
		}
		if !occupy.Free(m, nil, rect(0, 0, 4, 2)) || !occupy.Fits(m, []api.Rect{rect(3, 0, 1, 2)}, rect(0, 0, 3, 2)) {
			t.Errorf("a rectangle of the height %d is not free", height)
		}
		m.Cells[5].Height = height ^ 1
		if occupy.Free(m, nil, rect(0, 0, 4, 2)) || !occupy.Free(m, nil, rect(1, 1, 1, 1)) || !occupy.Free(m, nil, rect(2, 0, 2, 2)) {
			t.Errorf("a cell beside the height %d", height)
		}
	}
	m := flat(2, 1)
	m.Cells[0].Amount = 5
	if !occupy.Free(m, nil, rect(0, 0, 2, 1)) || !occupy.Free(wild(), nil, rect(2, 1, 1, 1)) || occupy.Free(wild(), nil, rect(0, 0, 1, 1)) {
		t.Error("Free in a map that is formed, but not valid")
	}
}

// P13.2: elements that are missing are false, and others beyond the map are ignored.
func TestFreeWithBlockedOfAllLengths(t *testing.T) {
	m := flat(3, 2)
	for n := range 12 {
		blocked := make([]bool, n)
		if n > 6 {
			for i := 6; i < n; i++ {
				blocked[i] = true
			}
		}
		if !occupy.Free(m, blocked, rect(0, 0, 3, 2)) {
			t.Errorf("the map is not free with %v", blocked)
		}
		if n > 0 && n <= 6 {
			blocked[n-1] = true
			if occupy.Free(m, blocked, rect(0, 0, 3, 2)) || !occupy.Free(m, blocked[:n-1], rect(0, 0, 3, 2)) {
				t.Errorf("the element %d is not regarded", n-1)
			}
		}
	}
}

// P13.2 to P13.5: in a map that is not formed, there are no cells.
func TestMapsThatAreNotFormed(t *testing.T) {
	for _, m := range unformed() {
		for _, r := range []api.Rect{rect(0, 0, 1, 1), rect(1, 0, 1, 1), {}, rect(-1, -1, 1, 1), rect(-1, -1, 3, 3), rect(0, 0, m.W, m.H)} {
			if occupy.Free(m, nil, r) || occupy.Fits(m, nil, r) {
				t.Errorf("%v is free in a map of %d by %d with %d cells", r, m.W, m.H, len(m.Cells))
			}
			if l := occupy.Ring(m, r); len(l) != 0 {
				t.Errorf("Ring of %v in a map of %d by %d with %d cells: %v", r, m.W, m.H, len(m.Cells), l)
			}
		}
		for class := range 5 {
			if l := occupy.Spots(m, nil, class, at(0, 0)); len(l) != 0 {
				t.Errorf("Spots of %d in a map of %d by %d with %d cells: %v", class, m.W, m.H, len(m.Cells), l)
			}
		}
	}
}

// P13.3: ordinary rectangles.
func TestFits(t *testing.T) {
	m := drawn("....", "..1.", "....")
	l := []api.Rect{rect(1, 1, 1, 1), rect(-3, 2, 4, 9), rect(0, 0, 3, 0)}
	cases := []struct {
		r    api.Rect
		want bool
	}{
		{rect(0, 0, 4, 1), true}, {rect(0, 0, 1, 2), true}, {rect(1, 1, 1, 1), false}, {rect(0, 1, 2, 1), false}, {rect(2, 1, 1, 1), true}, {rect(2, 1, 2, 1), false},
		{rect(0, 2, 1, 1), false}, {rect(1, 2, 3, 1), true}, {rect(0, 2, 2, 1), false}, {rect(0, 0, 1, 3), false}, {rect(3, 0, 1, 3), true}, {rect(1, 0, 1, 2), false},
		{rect(3, 2, 1, 2), false}, {rect(0, 0, 0, 1), false}, {rect(0, 0, 5, 1), false}, {rect(-1, 0, 2, 1), false}, {rect(1, 0, maxInt, 1), false},
	}
	for _, c := range cases {
		if fits := occupy.Fits(m, l, c.r); fits != c.want {
			t.Errorf("Fits(%v) = %v", c.r, fits)
		}
	}
	if occupy.Fits(flat(3, 3), []api.Rect{rect(0, 1, maxInt, 1)}, rect(2, 1, 1, 1)) || !occupy.Fits(flat(3, 3), []api.Rect{rect(minInt, 0, maxInt, 3)}, rect(0, 0, 3, 3)) {
		t.Error("Fits with rectangles of distant numbers")
	}
}

// P13.3, P13.6 and P13.7: random rectangles in random maps.
func TestFitsIsFree(t *testing.T) {
	random := rand.New(rand.NewSource(31))
	fits := 0
	for n := range 2000 {
		m, l := randomMap(random, 1+random.Intn(12), 1+random.Intn(12)), randomRects(random, n%7)
		blocked := occupy.Blocked(m, l)
		for _, r := range randomRects(random, 20) {
			fit := occupy.Fits(m, l, r)
			if fit != occupy.Free(m, blocked, r) {
				t.Fatalf("Fits of %v among %v is %v", r, l, fit)
			}
			if !fit {
				continue
			}
			fits++
			if slices.ContainsFunc(l, func(other api.Rect) bool { return grid.Meet(r, other) }) {
				t.Fatalf("%v fits, but meets one of %v", r, l)
			}
			for i := range l {
				if !occupy.Fits(m, slices.Delete(slices.Clone(l), i, i+1), r) {
					t.Fatalf("%v fits among %v, but not without the rectangle %d", r, l, i)
				}
			}
		}
	}
	if fits < 1000 {
		t.Errorf("only %d rectangles fit", fits)
	}
}

// P13.1 to P13.5: nothing that is passed changes, and results are new lists.
func TestArgumentsAreNotChanged(t *testing.T) {
	m, l := drawn("..~", "1$#"), []api.Rect{rect(1, 0, 1, 1), rect(-1, -1, 2, 2)}
	blocked := []bool{false, true, false, false, true}
	before, rects, marks := slices.Clone(m.Cells), slices.Clone(l), slices.Clone(blocked)
	occupy.Free(m, blocked, rect(0, 0, 3, 2))
	occupy.Fits(m, l, rect(0, 0, 3, 2))
	first, ring, spots := occupy.Blocked(m, l), occupy.Ring(m, l[0]), occupy.Spots(m, blocked, api.CFly, at(2, 1))
	clear(first)
	clear(ring)
	clear(spots)
	if !slices.Equal(before, m.Cells) || !slices.Equal(rects, l) || !slices.Equal(marks, blocked) {
		t.Error("an argument was changed")
	}
	if !occupy.Blocked(m, l)[1] || occupy.Ring(m, l[0])[1] != at(2, 0) || occupy.Spots(m, blocked, api.CFly, at(2, 1))[0] != at(2, 1) {
		t.Error("a change of a result changed the next one")
	}
}
