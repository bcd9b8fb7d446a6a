package terrain_test

import (
	"math"
	"math/rand"
	"slices"
	"testing"

	"skirmish/api"
	"skirmish/terrain"
)

const (
	maxInt = math.MaxInt
	minInt = math.MinInt
)

func at(x, y int) api.Pos { return api.Pos{X: x, Y: y} }

func cell(kind, height, amount int) api.Cell {
	return api.Cell{Kind: kind, Height: height, Amount: amount}
}

func newMap(w, h int, cells ...api.Cell) api.Map { return api.Map{W: w, H: h, Cells: cells} }

// flat returns a map of ground with the height 0.
func flat(w, h int) api.Map {
	return newMap(w, h, slices.Repeat([]api.Cell{cell(api.TGround, 0, 0)}, w*h)...)
}

// clone returns a map with cells of its own.
func clone(m api.Map) api.Map { return newMap(m.W, m.H, slices.Clone(m.Cells)...) }

// equal compares maps without the package that is tested.
func equal(a, b api.Map) bool {
	return a.W == b.W && a.H == b.H && slices.Equal(a.Cells, b.Cells)
}

func isZero(m api.Map) bool { return m.W == 0 && m.H == 0 && len(m.Cells) == 0 }

// sample returns a valid map of 3 by 2 cells with all kinds and heights.
func sample() api.Map {
	return newMap(3, 2,
		cell(api.TGround, 0, 0), cell(api.TWater, 1, 0), cell(api.TRock, 2, 0),
		cell(api.TForest, 3, 7), cell(api.TOre, 1, api.MaxAmount), cell(api.TGround, 3, 0))
}

// badlyFormed returns maps that are not formed, whose cells are valid.
func badlyFormed() []api.Map {
	ground := flat(32, 32).Cells
	return []api.Map{
		{}, {W: 1, H: 1}, {W: 0, H: 0, Cells: ground[:1]}, {W: 1, H: 0}, {W: 0, H: 1}, {W: 1, H: 0, Cells: ground[:1]},
		{W: 2, H: 2, Cells: ground[:3]}, {W: 2, H: 2, Cells: ground[:5]}, {W: 3, H: 2, Cells: ground[:5]}, {W: 32, H: 32, Cells: ground[:1023]},
		flat(33, 1), flat(1, 33), flat(33, 32), {W: 64, H: 16, Cells: ground},
		{W: -1, H: -1, Cells: ground[:1]}, {W: -2, H: -3, Cells: ground[:6]}, {W: -1, H: 1}, {W: 1, H: -1, Cells: ground[:1]},
		// The number of cells is the product, but not as an integer.
		{W: 1 << 32, H: 1 << 32}, {W: maxInt, H: maxInt, Cells: ground[:1]}, {W: minInt, H: minInt}, {W: minInt, H: 2},
	}
}

// numbers are small ones, and those at and around the bounds of cells and of ints.
func numbers() []int {
	return []int{minInt, minInt + 1, -1 << 32, -256, -5, -4, -3, -2, -1, 0, 1, 2, 3, 4, 5, 6, 7, 8, 255, 256, 257, api.MaxAmount - 1, api.MaxAmount, api.MaxAmount + 1, 1 << 32, 1<<32 + 1, maxInt - 1, maxInt}
}

// valid tells by the words of the chapter whether a cell is valid.
func valid(c api.Cell) bool {
	resource := c.Kind == api.TForest || c.Kind == api.TOre
	return c.Kind >= 1 && c.Kind <= 5 && c.Height >= 0 && c.Height <= 3 && c.Amount >= 0 && c.Amount <= 1000000 && (c.Amount > 0) == resource
}

// outside returns positions that are not inside a map of w by h cells.
func outside(w, h int) []api.Pos {
	return []api.Pos{
		at(-1, 0), at(0, -1), at(w, 0), at(0, h), at(w, h-1), at(w-1, h), at(-1, h-1), at(w-1, -1), at(-1, -1), at(w, h), at(-1, 1), at(w, -1), at(w+5, 0), at(0, h+5),
		at(maxInt, 0), at(0, maxInt), at(minInt, 0), at(0, minInt), at(maxInt, maxInt), at(minInt, minInt), at(1<<32, 0), at(0, 1<<32), at(1<<20, 1<<20), at(-1<<63+1, 1),
	}
}

// randomMap returns a valid map.
func randomMap(random *rand.Rand, w, h int) api.Map {
	m := flat(w, h)
	for i := range m.Cells {
		c := cell(1+random.Intn(5), random.Intn(4), 0)
		if c.Kind == api.TForest || c.Kind == api.TOre {
			c.Amount = 1 + random.Intn(9)
		}
		m.Cells[i] = c
	}
	return m
}

// P7.1
func TestValid(t *testing.T) {
	for _, m := range []api.Map{sample(), flat(1, 1), flat(32, 32), flat(1, 32), flat(32, 1), flat(31, 2)} {
		if !terrain.Valid(m) {
			t.Errorf("a map of %d by %d cells is not valid", m.W, m.H)
		}
	}
	for _, m := range badlyFormed() {
		if terrain.Valid(m) {
			t.Errorf("a map of %d by %d with %d cells is valid", m.W, m.H, len(m.Cells))
		}
	}
}

// P7.1: the numbers of a cell.
func TestValidCells(t *testing.T) {
	for _, kind := range numbers() {
		for _, height := range numbers() {
			for _, amount := range numbers() {
				c := cell(kind, height, amount)
				if terrain.Valid(newMap(1, 1, c)) != valid(c) {
					t.Fatalf("Valid with the cell %v is %v", c, !valid(c))
				}
			}
		}
	}
}

// P7.1: each cell counts.
func TestValidLooksAtAllCells(t *testing.T) {
	m := flat(32, 32)
	for i := range m.Cells {
		m.Cells[i].Amount = 1
		if terrain.Valid(m) {
			t.Fatalf("the map is valid, but its cell %d is not", i)
		}
		m.Cells[i].Amount = 0
	}
}

// P7.1
func TestGet(t *testing.T) {
	m := sample()
	for i, want := range m.Cells {
		if c, ok := terrain.Get(m, at(i%3, i/3)); c != want || !ok {
			t.Errorf("Get(%d, %d) = %v, %v, want %v", i%3, i/3, c, ok, want)
		}
	}
	for _, p := range outside(3, 2) {
		if c, ok := terrain.Get(m, p); c != (api.Cell{}) || ok {
			t.Errorf("Get(%v) outside = %v, %v", p, c, ok)
		}
	}
	// A map that is only formed has positions inside, too.
	odd := cell(-7, maxInt, minInt)
	if c, ok := terrain.Get(newMap(1, 2, cell(0, 0, 0), odd), at(0, 1)); c != odd || !ok {
		t.Errorf("Get in a map that is not valid = %v, %v", c, ok)
	}
	for _, m := range badlyFormed() {
		for _, p := range []api.Pos{at(0, 0), at(0, 1), at(1, 0), at(-1, -1)} {
			if c, ok := terrain.Get(m, p); c != (api.Cell{}) || ok {
				t.Errorf("Get(%v) in a map of %d by %d with %d cells = %v, %v", p, m.W, m.H, len(m.Cells), c, ok)
			}
		}
	}
}

// P7.2 and P7.9
func TestSet(t *testing.T) {
	m := sample()
	for i := range m.Cells {
		for _, c := range []api.Cell{cell(api.TGround, 0, 0), cell(api.TWater, 3, 0), cell(api.TRock, 2, 0), cell(api.TForest, 1, 1), cell(api.TOre, 0, api.MaxAmount)} {
			want := clone(m)
			want.Cells[i] = c
			got, e := terrain.Set(m, at(i%3, i/3), c)
			if e != api.OK || !equal(got, want) || !terrain.Valid(got) {
				t.Errorf("Set(%d, %d) to %v = %v, %d", i%3, i/3, c, got, e)
			}
		}
	}
	if !equal(m, sample()) {
		t.Error("Set changed its argument")
	}
}

// P7.2
func TestSetErrors(t *testing.T) {
	good := cell(api.TRock, 1, 0)
	check := func(m api.Map, p api.Pos, c api.Cell, want api.Errno) {
		t.Helper()
		if got, e := terrain.Set(m, p, c); e != want || !isZero(got) {
			t.Errorf("Set of a map of %d by %d at %v to %v = %v, %d, want the error %d", m.W, m.H, p, c, got, e, want)
		}
	}
	for _, m := range badlyFormed() {
		check(m, at(0, 0), good, api.ErrArg)
	}
	for _, p := range outside(3, 2) {
		check(sample(), p, good, api.ErrNotFound)
		check(sample(), p, cell(0, 0, 0), api.ErrArg)
		check(newMap(3, 2), p, good, api.ErrArg)
	}
	for _, c := range []api.Cell{{}, cell(6, 0, 0), cell(-1, 0, 0), cell(api.TGround, 4, 0), cell(api.TGround, -1, 0), cell(api.TGround, 0, 1), cell(api.TWater, 0, 1), cell(api.TRock, 0, 1), cell(api.TForest, 0, 0), cell(api.TOre, 0, 0), cell(api.TOre, 0, -1), cell(api.TOre, 0, api.MaxAmount+1), cell(maxInt, maxInt, maxInt), cell(minInt, minInt, minInt)} {
		check(sample(), at(0, 0), c, api.ErrArg)
		// A map that is not valid stays so, even if the cell that is replaced is the reason.
		check(newMap(1, 1, c), at(0, 0), good, api.ErrArg)
	}
}

// P7.5 and P7.9
func TestTake(t *testing.T) {
	cases := []struct {
		before   api.Cell
		n, taken int
		after    api.Cell
	}{
		{cell(api.TOre, 0, 3), 5, 3, cell(api.TGround, 0, 0)}, {cell(api.TOre, 0, 3), 2, 2, cell(api.TOre, 0, 1)}, {cell(api.TOre, 2, 3), 3, 3, cell(api.TGround, 2, 0)}, {cell(api.TOre, 1, 1), 1, 1, cell(api.TGround, 1, 0)},
		{cell(api.TForest, 3, 7), 5, 5, cell(api.TForest, 3, 2)}, {cell(api.TForest, 3, 7), 7, 7, cell(api.TGround, 3, 0)}, {cell(api.TForest, 3, 7), 8, 7, cell(api.TGround, 3, 0)}, {cell(api.TForest, 0, 2), 1, 1, cell(api.TForest, 0, 1)},
		{cell(api.TOre, 3, api.MaxAmount), maxInt, api.MaxAmount, cell(api.TGround, 3, 0)}, {cell(api.TForest, 1, api.MaxAmount), api.MaxAmount - 1, api.MaxAmount - 1, cell(api.TForest, 1, 1)}, {cell(api.TOre, 0, 1), maxInt, 1, cell(api.TGround, 0, 0)},
	}
	for _, c := range cases {
		for i := range 6 {
			m := sample()
			m.Cells[i] = c.before
			before, want := clone(m), clone(m)
			want.Cells[i] = c.after
			got, taken, e := terrain.Take(m, at(i%3, i/3), c.n)
			if e != api.OK || taken != c.taken || !equal(got, want) || !terrain.Valid(got) {
				t.Errorf("Take of %d from %v at %d = %v, %d, %d, want %v, %d", c.n, c.before, i, got.Cells, taken, e, c.after, c.taken)
			}
			if !equal(m, before) {
				t.Fatal("Take changed its argument")
			}
		}
	}
}

// P7.5
func TestTakeErrors(t *testing.T) {
	check := func(m api.Map, p api.Pos, n int, want api.Errno) {
		t.Helper()
		if got, taken, e := terrain.Take(m, p, n); e != want || taken != 0 || !isZero(got) {
			t.Errorf("Take of %d at %v from a map of %d by %d = %v, %d, %d, want the error %d", n, p, m.W, m.H, got, taken, e, want)
		}
	}
	for _, m := range badlyFormed() {
		check(m, at(0, 0), 1, api.ErrArg)
	}
	for _, n := range []int{0, -1, -5, minInt} {
		check(sample(), at(1, 1), n, api.ErrArg)
		check(sample(), at(0, 0), n, api.ErrArg)
		check(sample(), at(9, 9), n, api.ErrArg)
	}
	for _, p := range append(outside(3, 2), at(0, 0), at(1, 0), at(2, 0), at(2, 1)) {
		check(sample(), p, 1, api.ErrNotFound)
		check(sample(), p, maxInt, api.ErrNotFound)
	}
	for _, c := range []api.Cell{cell(api.TOre, 0, 0), cell(api.TOre, 0, -4), cell(api.TOre, 0, api.MaxAmount+1), cell(api.TOre, 4, 5), cell(api.TGround, 0, 5), cell(0, 0, 5)} {
		check(newMap(1, 1, c), at(0, 0), 2, api.ErrArg)
		check(newMap(2, 1, cell(api.TOre, 0, 5), c), at(0, 0), 2, api.ErrArg)
	}
}

// P7.2, P7.5 and P7.9: results share no memory with the arguments.
func TestResultsAreNewMaps(t *testing.T) {
	m := sample()
	set, _ := terrain.Set(m, at(0, 0), cell(api.TRock, 0, 0))
	taken, _, _ := terrain.Take(m, at(1, 1), 1)
	set.Cells[5], taken.Cells[5] = cell(api.TWater, 0, 0), cell(api.TWater, 1, 0)
	if !equal(m, sample()) {
		t.Error("a change of a result changed the argument")
	}
}

// P7.5 and P7.9: what is taken and what is left is what was there, until nothing is.
func TestTakeConserves(t *testing.T) {
	random := rand.New(rand.NewSource(7))
	total := func(m api.Map) int {
		sum := 0
		for _, c := range m.Cells {
			sum += c.Amount
		}
		return sum
	}
	for range 50 {
		m := randomMap(random, 1+random.Intn(5), 1+random.Intn(5))
		for range 100 {
			p, n := at(random.Intn(m.W), random.Intn(m.H)), 1+random.Intn(6)
			next, taken, e := terrain.Take(m, p, n)
			if e == api.ErrNotFound {
				if c, _ := terrain.Get(m, p); c.Amount != 0 {
					t.Fatalf("Take finds nothing in %v", c)
				}
				continue
			}
			if e != api.OK || taken < 1 || taken > n || total(next)+taken != total(m) || !terrain.Valid(next) {
				t.Fatalf("Take of %d at %v from %v = %v, %d, %d", n, p, m, next, taken, e)
			}
			m = next
		}
	}
}

// P7.6
func TestSame(t *testing.T) {
	a := sample()
	if !terrain.Same(a, a) || !terrain.Same(a, clone(a)) {
		t.Error("a map is not the same as itself")
	}
	for i := range a.Cells {
		for n := range 3 {
			b := clone(a)
			*[]*int{&b.Cells[i].Kind, &b.Cells[i].Height, &b.Cells[i].Amount}[n] += 1
			if terrain.Same(a, b) || terrain.Same(b, a) {
				t.Errorf("maps that differ in the number %d of the cell %d are the same", n, i)
			}
		}
	}
	for _, b := range []api.Map{newMap(2, 3, a.Cells...), newMap(3, 3, a.Cells...), newMap(4, 2, a.Cells...), newMap(6, 1, a.Cells...), newMap(3, 2, a.Cells[:5]...), newMap(3, 2), {}} {
		if terrain.Same(a, b) || terrain.Same(b, a) {
			t.Errorf("a map of 3 by 2 and one of %d by %d with %d cells are the same", b.W, b.H, len(b.Cells))
		}
	}
	// Maps that are not formed are compared, too; a nil slice and an empty one are equal.
	list := badlyFormed()
	for i, m := range list {
		for j, other := range list {
			if terrain.Same(m, other) != equal(m, other) || i == j && !terrain.Same(m, clone(other)) {
				t.Errorf("Same of the maps %d and %d that are not formed", i, j)
			}
		}
	}
	if !terrain.Same(api.Map{W: 2}, api.Map{W: 2, Cells: []api.Cell{}}) {
		t.Error("a nil slice of cells is not the same as an empty one")
	}
}
