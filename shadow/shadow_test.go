package shadow_test

import (
	"math"
	"math/rand"
	"slices"
	"strings"
	"testing"

	"skirmish/api"
	"skirmish/shadow"
)

const (
	maxInt = math.MaxInt
	minInt = math.MinInt
)

func at(x, y int) api.Pos { return api.Pos{X: x, Y: y} }

// filled returns a map whose cells are all c.
func filled(w, h int, c api.Cell) api.Map {
	return api.Map{W: w, H: h, Cells: slices.Repeat([]api.Cell{c}, w*h)}
}

func flat(w, h int) api.Map { return filled(w, h, api.Cell{Kind: api.TGround}) }

func rocky(w, h int) api.Map { return filled(w, h, api.Cell{Kind: api.TRock}) }

// drawn returns a map from its rows: "#" is a rock, "*" a forest, "~" water, a digit ground of that height, and all others flat ground.
func drawn(rows ...string) api.Map {
	m := api.Map{W: len(rows[0]), H: len(rows)}
	for _, char := range strings.Join(rows, "") {
		c := api.Cell{Kind: api.TGround}
		switch {
		case char == '#':
			c.Kind = api.TRock
		case char == '*':
			c = api.Cell{Kind: api.TForest, Amount: 1}
		case char == '~':
			c.Kind = api.TWater
		case '0' <= char && char <= '9':
			c.Height = int(char - '0')
		}
		m.Cells = append(m.Cells, c)
	}
	return m
}

// positions returns all cells of m, row by row.
func positions(m api.Map) []api.Pos {
	var list []api.Pos
	for i := range m.W * m.H {
		list = append(list, at(i%m.W, i/m.W))
	}
	return list
}

func clone(m api.Map) api.Map {
	return api.Map{W: m.W, H: m.H, Cells: slices.Clone(m.Cells)}
}

func same(a, b api.Map) bool {
	return a.W == b.W && a.H == b.H && slices.Equal(a.Cells, b.Cells)
}

// randomCell returns a valid cell, which is more often flat ground the greater its number of chances is.
func randomCell(random *rand.Rand, chances int) api.Cell {
	c := api.Cell{Kind: api.TGround}
	if random.Intn(chances) == 0 {
		c = api.Cell{Kind: 1 + random.Intn(5), Height: random.Intn(4)}
		if c.Kind == api.TForest || c.Kind == api.TOre {
			c.Amount = 1
		}
	}
	return c
}

func randomMap(random *rand.Rand, w, h, chances int) api.Map {
	m := flat(w, h)
	for i := range m.Cells {
		m.Cells[i] = randomCell(random, chances)
	}
	return m
}

func randomPosition(random *rand.Rand, m api.Map) api.Pos {
	return at(random.Intn(m.W), random.Intn(m.H))
}

// badMaps returns maps that are not valid.
func badMaps() []api.Map {
	rocks := rocky(32, 32).Cells
	list := []api.Map{
		{}, {W: 1, H: 1}, {W: 3, H: 1}, {W: 3, H: 1, Cells: rocks[:2]}, {W: 3, H: 1, Cells: rocks[:4]}, {W: 0, H: 3}, {W: 3, H: 0, Cells: rocks[:3]},
		rocky(33, 1), rocky(1, 33), rocky(33, 32), {W: 64, H: 16, Cells: rocks}, {W: -3, H: -1, Cells: rocks[:3]}, {W: -1, H: 1}, {W: 3, H: -1},
		{W: maxInt, H: maxInt}, {W: minInt, H: minInt}, {W: 1 << 32, H: 1 << 32}, {W: minInt, H: 2, Cells: rocks[:4]},
	}
	for _, bad := range []api.Cell{{}, {Kind: 6}, {Kind: -1}, {Kind: api.TGround, Height: 4}, {Kind: api.TRock, Height: -1}, {Kind: api.TGround, Amount: 1}, {Kind: api.TForest}, {Kind: api.TOre, Amount: api.MaxAmount + 1}, {Kind: maxInt, Height: maxInt, Amount: maxInt}, {Kind: minInt, Height: minInt, Amount: minInt}} {
		for _, i := range []int{0, 2, 8} {
			m := rocky(3, 3)
			m.Cells[i] = bad
			list = append(list, m)
		}
	}
	return list
}

// outside returns cells that are not cells of a map of w by h.
func outside(w, h int) []api.Pos {
	return []api.Pos{
		at(-1, 0), at(0, -1), at(w, 0), at(0, h), at(w, h), at(-1, -1), at(w, -1), at(-1, h), at(w-1, h), at(w, h-1), at(-w, 0), at(0, -h), at(2*w, 0), at(0, 2*h), at(w+w/2, h/2), at(w/2, h+h/2),
		at(maxInt, 0), at(0, maxInt), at(minInt, 0), at(0, minInt), at(maxInt, maxInt), at(minInt, minInt), at(maxInt, minInt), at(1<<32, 0), at(0, 1<<32), at(minInt+1, 1),
	}
}

// meetsSquare tells by the definition whether the line from a to b meets the open square of c: whether there is a t with 0 < t < 1 at which both coordinates are strictly within it.
func meetsSquare(a, b, c api.Pos) bool {
	type fraction struct{ over, under int }
	if a == b {
		return false
	}
	from, to := []fraction{{0, 1}}, []fraction{{1, 1}}
	for _, axis := range [2][3]int{{a.X, b.X, c.X}, {a.Y, b.Y, c.Y}} {
		// Twice the way along the axis, and twice the distances of the sides of the square from the beginning.
		way, near, far := 2*(axis[1]-axis[0]), 2*(axis[2]-axis[0])-1, 2*(axis[2]-axis[0])+1
		switch {
		case way > 0:
			from, to = append(from, fraction{near, way}), append(to, fraction{far, way})
		case way < 0:
			from, to = append(from, fraction{-far, -way}), append(to, fraction{-near, -way})
		case near >= 0 || far <= 0:
			return false
		}
	}
	for _, low := range from {
		for _, high := range to {
			if low.over*high.under >= high.over*low.under {
				return false
			}
		}
	}
	return true
}

// in tells whether p is a cell of m, which is valid.
func in(m api.Map, p api.Pos) bool {
	return p.X >= 0 && p.Y >= 0 && p.X < m.W && p.Y < m.H
}

// blocks is Blocks by the definition, for a valid map.
func blocks(m api.Map, a, b, c api.Pos) bool {
	if !in(m, a) || !in(m, b) || !in(m, c) || c == a || c == b || !meetsSquare(a, b, c) {
		return false
	}
	cell := func(p api.Pos) api.Cell { return m.Cells[p.Y*m.W+p.X] }
	opaque := cell(c).Kind == api.TRock || cell(c).Kind == api.TForest
	return opaque || cell(c).Height > cell(a).Height && cell(c).Height > cell(b).Height
}

// sees is Sees by the definition, for a valid map and cells of it.
func sees(m api.Map, a, b api.Pos) bool {
	return !slices.ContainsFunc(positions(m), func(c api.Pos) bool { return blocks(m, a, b, c) })
}

// near tells whether b is within a radius around a.
func near(a, b api.Pos, radius int) bool {
	dx, dy := a.X-b.X, a.Y-b.Y
	return dx*dx+dy*dy <= radius*radius
}

// visible is Visible by the definition, for a valid map, a cell of it, and a radius from 0 to 32.
func visible(m api.Map, from api.Pos, radius int, high bool) []bool {
	var list []bool
	for _, p := range positions(m) {
		list = append(list, near(from, p, radius) && (high || sees(m, from, p)))
	}
	return list
}

// picture returns a list of the cells of m as rows.
func picture(m api.Map, list []bool) []string {
	var rows []string
	for row := range slices.Chunk(list, m.W) {
		text := ""
		for _, ok := range row {
			text += map[bool]string{true: "o", false: "-"}[ok]
		}
		rows = append(rows, text)
	}
	return rows
}

// The examples of the chapter and of the document.
func TestExamples(t *testing.T) {
	m := drawn(".#..", "....", "....")
	for _, b := range []api.Pos{at(1, 0), at(1, 1), at(2, 2)} {
		if !shadow.Sees(m, at(0, 0), b) {
			t.Errorf("the cell (0, 0) does not see %v", b)
		}
	}
	for _, b := range []api.Pos{at(2, 0), at(2, 1)} {
		if shadow.Sees(m, at(0, 0), b) || !shadow.Blocks(m, at(0, 0), b, at(1, 0)) {
			t.Errorf("the rock does not hide %v", b)
		}
	}
	if shadow.Blocks(m, at(0, 0), at(1, 1), at(1, 0)) {
		t.Error("the rock blocks a line that touches its corner")
	}
}

// P12.1: which cells a line meets, drawn by hand.
func TestBlocksAlongLines(t *testing.T) {
	cases := []struct {
		a, b api.Pos
		want []string
	}{
		{at(0, 0), at(4, 0), []string{"-ooo-", "-----", "-----", "-----"}},
		{at(2, 0), at(2, 3), []string{"-----", "--o--", "--o--", "-----"}},
		{at(0, 0), at(3, 3), []string{"-----", "-o---", "--o--", "-----"}},
		{at(4, 0), at(2, 2), []string{"-----", "---o-", "-----", "-----"}},
		{at(0, 0), at(4, 2), []string{"-o---", "-ooo-", "---o-", "-----"}},
		{at(0, 0), at(2, 1), []string{"-o---", "-o---", "-----", "-----"}},
		{at(0, 0), at(1, 3), []string{"-----", "o----", "-o---", "-----"}},
		{at(0, 0), at(3, 1), []string{"-o---", "--o--", "-----", "-----"}},
		{at(0, 0), at(4, 1), []string{"-oo--", "--oo-", "-----", "-----"}},
		{at(4, 0), at(0, 3), []string{"---o-", "--oo-", "-oo--", "-o---"}},
		{at(0, 0), at(4, 3), []string{"-o---", "-oo--", "--oo-", "---o-"}},
		{at(0, 0), at(3, 2), []string{"-o---", "-oo--", "--o--", "-----"}},
		{at(3, 3), at(3, 2), []string{"-----", "-----", "-----", "-----"}},
		{at(1, 1), at(2, 2), []string{"-----", "-----", "-----", "-----"}},
		{at(2, 2), at(2, 2), []string{"-----", "-----", "-----", "-----"}},
	}
	m := rocky(5, 4)
	for _, c := range cases {
		var forward, backward []bool
		for _, p := range positions(m) {
			forward, backward = append(forward, shadow.Blocks(m, c.a, c.b, p)), append(backward, shadow.Blocks(m, c.b, c.a, p))
		}
		if got := picture(m, forward); !slices.Equal(got, c.want) {
			t.Errorf("the line from %v to %v meets %q, want %q", c.a, c.b, got, c.want)
		}
		if got := picture(m, backward); !slices.Equal(got, c.want) {
			t.Errorf("the line from %v to %v meets %q, want %q", c.b, c.a, got, c.want)
		}
	}
}

// P12.1: all lines and cells of a map, and of a narrow one.
func TestBlocksEverywhere(t *testing.T) {
	for _, m := range []api.Map{rocky(8, 7), rocky(3, 9), rocky(12, 1), rocky(1, 12), rocky(1, 1)} {
		list := positions(m)
		for _, a := range list {
			for _, b := range list {
				for _, c := range list {
					if got := shadow.Blocks(m, a, b, c); got != blocks(m, a, b, c) {
						t.Fatalf("in a map of %d by %d, Blocks of %v, %v and %v is %v", m.W, m.H, a, b, c, got)
					}
				}
			}
		}
	}
}

// P12.1: long lines.
func TestBlocksFar(t *testing.T) {
	random := rand.New(rand.NewSource(1))
	m := rocky(32, 32)
	corners := []api.Pos{at(0, 0), at(31, 0), at(0, 31), at(31, 31), at(31, 30), at(1, 0)}
	for round := range 600 {
		a, b := randomPosition(random, m), randomPosition(random, m)
		if round < len(corners)*len(corners) {
			a, b = corners[round%len(corners)], corners[round/len(corners)]
		}
		for _, c := range positions(m) {
			if got := shadow.Blocks(m, a, b, c); got != blocks(m, a, b, c) {
				t.Fatalf("Blocks of %v, %v and %v is %v", a, b, c, got)
			}
		}
	}
}

// P12.1 and P12.2: the terrain of the three cells, of all kinds and heights.
func TestTerrain(t *testing.T) {
	var cells []api.Cell
	for kind := 1; kind <= 5; kind++ {
		for height := range 4 {
			c := api.Cell{Kind: kind, Height: height}
			if kind == api.TForest || kind == api.TOre {
				c.Amount = 1
			}
			cells = append(cells, c)
		}
	}
	for _, a := range cells {
		for _, b := range cells {
			for _, c := range cells {
				m := api.Map{W: 3, H: 1, Cells: []api.Cell{a, c, b}}
				want := c.Kind == api.TRock || c.Kind == api.TForest || c.Height > a.Height && c.Height > b.Height
				if shadow.Blocks(m, at(0, 0), at(2, 0), at(1, 0)) != want || shadow.Sees(m, at(0, 0), at(2, 0)) == want {
					t.Fatalf("the cell %v between %v and %v blocks: want %v", c, a, b, want)
				}
			}
		}
	}
}

// P12.1 and P12.2: neither end blocks the line, whatever it is, but they count as cells between others.
func TestEnds(t *testing.T) {
	m := drawn("#3*", "3.#")
	for _, a := range positions(m) {
		for _, b := range positions(m) {
			if shadow.Blocks(m, a, b, a) || shadow.Blocks(m, a, b, b) {
				t.Errorf("an end of the line from %v to %v blocks it", a, b)
			}
		}
	}
	if !shadow.Sees(m, at(0, 0), at(1, 0)) || !shadow.Sees(m, at(2, 0), at(2, 1)) || !shadow.Sees(m, at(0, 0), at(1, 1)) {
		t.Error("cells do not see their neighbors")
	}
	if shadow.Sees(m, at(0, 0), at(2, 0)) || shadow.Sees(m, at(0, 0), at(2, 1)) || !shadow.Sees(drawn("030"), at(1, 0), at(2, 0)) {
		t.Error("the cells between two others")
	}
}

// P12.1 and P12.2: cells that are not inside.
func TestOutside(t *testing.T) {
	m := rocky(6, 5)
	for _, far := range outside(m.W, m.H) {
		for _, p := range append(outside(m.W, m.H), positions(m)...) {
			if shadow.Sees(m, far, p) || shadow.Sees(m, p, far) || shadow.Sees(flat(6, 5), far, p) || shadow.Sees(flat(6, 5), p, far) {
				t.Fatalf("%v and %v see each other", far, p)
			}
			for _, q := range []api.Pos{far, p, at(0, 0), at(1, 1), at(2, 0), at(0, 2), at(3, 2), at(5, 0), at(0, 4), at(5, 4)} {
				if shadow.Blocks(m, far, p, q) || shadow.Blocks(m, p, far, q) || shadow.Blocks(m, p, q, far) {
					t.Fatalf("Blocks of %v, %v and %v in any order", far, p, q)
				}
			}
		}
	}
}

// P12.1, P12.2 and P12.3: maps that are not valid.
func TestBadMaps(t *testing.T) {
	cells := []api.Pos{at(0, 0), at(1, 0), at(2, 0), at(0, 1), at(0, 2), at(1, 1), at(2, 2), at(-1, 0), at(0, -1), at(-1, -1), at(-2, 0), at(-3, -1), at(maxInt, maxInt), at(minInt, minInt)}
	for i, m := range badMaps() {
		for _, a := range cells {
			for _, b := range cells {
				if shadow.Sees(m, a, b) {
					t.Errorf("in the bad map %d, %v sees %v", i, a, b)
				}
				for _, c := range cells {
					if shadow.Blocks(m, a, b, c) {
						t.Errorf("in the bad map %d, Blocks of %v, %v and %v", i, a, b, c)
					}
				}
			}
			for _, radius := range []int{minInt, -1, 0, 1, 5, maxInt} {
				if l := shadow.Visible(m, a, radius, radius%2 == 1); len(l) != 0 {
					t.Errorf("in the bad map %d, %v sees %v", i, a, l)
				}
			}
		}
	}
}

// P12.2: all pairs of cells of random maps.
func TestSees(t *testing.T) {
	random := rand.New(rand.NewSource(2))
	for round := range 60 {
		m := randomMap(random, 1+random.Intn(9), 1+random.Intn(9), 1+round%8)
		for _, a := range positions(m) {
			for _, b := range positions(m) {
				if got := shadow.Sees(m, a, b); got != sees(m, a, b) {
					t.Fatalf("in %v, Sees of %v and %v is %v", m, a, b, got)
				}
			}
		}
	}
}

// P12.2: a line is blocked by each single cell that blocks it, and by no other one.
func TestSeesPastEachCell(t *testing.T) {
	random := rand.New(rand.NewSource(3))
	m := flat(32, 32)
	for range 60 {
		a, b := randomPosition(random, m), randomPosition(random, m)
		for i, c := range positions(m) {
			m.Cells[i] = api.Cell{Kind: api.TRock}
			if got, want := shadow.Sees(m, a, b), c == a || c == b || !meetsSquare(a, b, c); got != want {
				t.Fatalf("with a rock at %v, Sees of %v and %v is %v", c, a, b, got)
			}
			m.Cells[i] = api.Cell{Kind: api.TGround}
		}
	}
}

// P12.1, P12.2 and P12.5: neither Blocks nor Sees depends on the order of a and b, in maps of any size.
func TestSymmetry(t *testing.T) {
	random := rand.New(rand.NewSource(4))
	for round := range 300 {
		m := randomMap(random, 1+random.Intn(32), 1+random.Intn(32), 1+round%30)
		for range 100 {
			a, b, c := randomPosition(random, m), randomPosition(random, m), randomPosition(random, m)
			if got := shadow.Blocks(m, a, b, c); got != shadow.Blocks(m, b, a, c) || got != blocks(m, a, b, c) {
				t.Fatalf("in %v, Blocks of %v, %v and %v", m, a, b, c)
			}
			if got := shadow.Sees(m, a, b); got != shadow.Sees(m, b, a) || got != sees(m, a, b) {
				t.Fatalf("in %v, Sees of %v and %v is %v", m, a, b, got)
			}
		}
	}
}

// P12.6: a cell sees itself, whatever it is.
func TestCellSeesItself(t *testing.T) {
	random := rand.New(rand.NewSource(5))
	for range 50 {
		m := randomMap(random, 1+random.Intn(32), 1+random.Intn(32), 1)
		for i, p := range positions(m) {
			if !shadow.Sees(m, p, p) || !shadow.Visible(m, p, 0, false)[i] || !shadow.Visible(m, p, 3, false)[i] {
				t.Fatalf("in %v, %v does not see itself", m, p)
			}
		}
	}
}

// The arguments are not changed.
func TestArgumentsStay(t *testing.T) {
	m := drawn("0#2*~", "31.0#", "~*0.1")
	before := clone(m)
	for _, a := range positions(m) {
		for _, b := range positions(m) {
			shadow.Sees(m, a, b)
			shadow.Blocks(m, a, b, at(2, 1))
		}
		shadow.Visible(m, a, 4, false)
		shadow.Visible(m, a, 4, true)
	}
	if !same(m, before) {
		t.Error("the map was changed")
	}
}
