package mapfile_test

import (
	"math"
	"math/rand"
	"reflect"
	"slices"
	"strings"
	"testing"

	"skirmish/api"
	"skirmish/mapfile"
)

const (
	maxInt = math.MaxInt
	minInt = math.MinInt
)

func at(x, y int) api.Pos { return api.Pos{X: x, Y: y} }

// sorts are a cell of each kind, from TGround to TOre, with all heights.
func sorts() []api.Cell {
	return []api.Cell{
		{Kind: api.TGround}, {Kind: api.TWater, Height: 1}, {Kind: api.TRock, Height: 2},
		{Kind: api.TForest, Height: 3, Amount: 7}, {Kind: api.TOre, Height: 1, Amount: api.MaxAmount},
	}
}

// flat returns a map of ground with the height 0.
func flat(w, h int) api.Map {
	return api.Map{W: w, H: h, Cells: slices.Repeat([]api.Cell{{Kind: api.TGround}}, w*h)}
}

// row returns a map with one row of cells.
func row(cells ...api.Cell) api.Map { return api.Map{W: len(cells), H: 1, Cells: cells} }

func file(name string, m api.Map, starts ...api.Pos) api.MapFile {
	return api.MapFile{Name: name, Map: m, Starts: starts}
}

// duel is the map file of the chapter's example.
func duel() api.MapFile {
	return file("duel", row(api.Cell{Kind: api.TGround}, api.Cell{Kind: api.TOre, Amount: 9}, api.Cell{Kind: api.TGround}), at(0, 0), at(2, 0))
}

// clone returns a map file that shares no memory with f.
func clone(f api.MapFile) api.MapFile {
	f.Map.Cells, f.Starts = slices.Clone(f.Map.Cells), slices.Clone(f.Starts)
	return f
}

// equal compares map files; an empty list equals a missing one.
func equal(f, g api.MapFile) bool {
	return f.Name == g.Name && f.Map.W == g.Map.W && f.Map.H == g.Map.H && slices.Equal(f.Map.Cells, g.Map.Cells) && slices.Equal(f.Starts, g.Starts)
}

func isZero(f api.MapFile) bool { return equal(f, api.MapFile{}) }

// isName tells by the words of the chapter whether s is a name.
func isName(s string) bool {
	const letters, others = "abcdefghijklmnopqrstuvwxyz", "0123456789_"
	return 1 <= len(s) && len(s) <= 12 && strings.Contains(letters, s[:1]) && strings.Trim(s, letters+others) == ""
}

// valid says by the words of the chapter what is wrong with f, whose map is valid exactly if mapOK.
func valid(f api.MapFile, mapOK bool) api.Errno {
	if !isName(f.Name) {
		return api.ErrName
	}
	if !mapOK {
		return api.ErrArg
	}
	if len(f.Starts) < 2 || len(f.Starts) > 6 {
		return api.ErrLimit
	}
	seen := map[api.Pos]bool{}
	for _, p := range f.Starts {
		if p.X < 0 || p.Y < 0 || p.X >= f.Map.W || p.Y >= f.Map.H {
			return api.ErrBlocked
		}
		if kind := f.Map.Cells[p.Y*f.Map.W+p.X].Kind; kind != api.TGround && kind != api.TOre {
			return api.ErrBlocked
		}
		if seen[p] {
			return api.ErrDuplicate
		}
		seen[p] = true
	}
	return api.OK
}

// names are texts that are names, or nearly so.
func names() []string {
	list := []string{
		"", "a", "z", "a1", "a_", "a__9", "duel", "abcdefghijkl", "z23456789012", "abcdefghijklm", "a_0123456789z",
		"_", "_a", "0", "9a", "A", "aB", "a b", " a", "a ", "a-b", "a.b", "a\n", "\na", "a\x00", "\x00", "é", "aé", "ａ", "a\xff", "a\u0661", strings.Repeat("a", 13), strings.Repeat("a", 1000),
	}
	for c := range 256 {
		s := string([]byte{byte(c)})
		list = append(list, s, "q"+s, "q"+s+"7", s+"q")
	}
	return list
}

// badMaps are maps that are not valid.
func badMaps() []api.Map {
	list := []api.Map{
		{}, {W: 1, H: 1}, {W: 3, H: 2, Cells: flat(3, 2).Cells[:5]}, {W: 2, H: 2, Cells: flat(5, 1).Cells}, flat(33, 1), flat(1, 33), flat(0, 0), flat(5, 0),
		{W: -2, H: -2, Cells: flat(2, 2).Cells}, {W: 1 << 32, H: 1 << 32}, {W: maxInt, H: maxInt}, {W: minInt, H: minInt}, {W: 64, H: 16, Cells: flat(32, 32).Cells},
	}
	bad := []api.Cell{
		{}, {Kind: 6}, {Kind: -1}, {Kind: 1, Height: -1}, {Kind: 1, Height: 4}, {Kind: 1, Amount: 1}, {Kind: 2, Amount: 1}, {Kind: 3, Amount: 1}, {Kind: 4}, {Kind: 5}, {Kind: 4, Amount: -1}, {Kind: 5, Amount: -1}, {Kind: 5, Amount: api.MaxAmount + 1},
		{Kind: maxInt}, {Kind: minInt}, {Kind: 1, Height: maxInt}, {Kind: 1, Height: minInt}, {Kind: 5, Amount: maxInt}, {Kind: 5, Amount: minInt}, {Kind: 257}, {Kind: 1<<32 + 1},
	}
	for _, c := range bad {
		for i := range 4 {
			m := flat(2, 2)
			m.Cells[i] = c
			list = append(list, m)
		}
	}
	return list
}

// outside are positions outside a map of w by h cells.
func outside(w, h int) []api.Pos {
	return []api.Pos{
		at(-1, 0), at(0, -1), at(w, 0), at(0, h), at(-1, h-1), at(w-1, -1), at(-1, 1), at(w, h), at(w, -1), at(-1, -1), at(w+1, 0), at(31, 31), at(32, 32),
		at(maxInt, 0), at(0, maxInt), at(minInt, 0), at(0, minInt), at(minInt, minInt), at(maxInt, maxInt), at(1<<32, 0), at(0, 1<<32), at(w-1+minInt, 0), at(0, h-1+minInt), at(minInt+1, minInt+1),
	}
}

// randomCell returns a valid cell; most are ground.
func randomCell(random *rand.Rand) api.Cell {
	c := api.Cell{Kind: api.TGround, Height: random.Intn(4)}
	if random.Intn(2) == 0 {
		c.Kind = 1 + random.Intn(5)
	}
	if c.Kind == api.TForest || c.Kind == api.TOre {
		amounts := []int{1, 9, 10, 90, 100, 12345, 999999, 1000000, 1 + random.Intn(1000000)}
		c.Amount = amounts[random.Intn(len(amounts))]
	}
	return c
}

// randomMap returns a valid map.
func randomMap(random *rand.Rand, w, h int) api.Map {
	m := flat(w, h)
	for i := range m.Cells {
		m.Cells[i] = randomCell(random)
	}
	return m
}

// randomStarts returns positions inside a map, not all of which need to be good starts.
func randomStarts(random *rand.Rand, m api.Map) []api.Pos {
	var list []api.Pos
	for range random.Intn(8) {
		list = append(list, at(random.Intn(m.W), random.Intn(m.H)))
	}
	return list
}

// randomFile returns a valid map file of w by h cells, which are two at least.
func randomFile(random *rand.Rand, w, h int) api.MapFile {
	for {
		good := []string{"a", "duel", "z_9", "abcdefghijkl"}
		m := randomMap(random, w, h)
		f := file(good[random.Intn(len(good))], m, randomStarts(random, m)...)
		if valid(f, true) == api.OK {
			return f
		}
	}
}

// P8.1
func TestValidNames(t *testing.T) {
	for _, name := range names() {
		want := api.OK
		if !isName(name) {
			want = api.ErrName
		}
		if e := mapfile.Valid(file(name, flat(2, 1), at(0, 0), at(1, 0))); e != want {
			t.Errorf("Valid with the name %q = %d, want %d", name, e, want)
		}
	}
}

// P8.1
func TestValidMaps(t *testing.T) {
	for _, m := range badMaps() {
		if e := mapfile.Valid(file("a", m, at(0, 0), at(1, 0))); e != api.ErrArg {
			t.Errorf("Valid with the map %v = %d", m, e)
		}
	}
	for _, m := range []api.Map{flat(2, 1), flat(32, 32), flat(32, 1), row(append(sorts(), sorts()...)...)} {
		starts := []api.Pos{at(0, 0), at(m.W-1, m.H-1)}
		if e := mapfile.Valid(file("a", m, starts...)); e != api.OK {
			t.Errorf("Valid with the map %v = %d", m, e)
		}
	}
}

// P8.1: from 2 to 6 starts.
func TestValidNumberOfStarts(t *testing.T) {
	for n := range 12 {
		var starts []api.Pos
		for x := range n {
			starts = append(starts, at(x, 0))
		}
		want := api.ErrLimit
		if n >= 2 && n <= 6 {
			want = api.OK
		}
		if e := mapfile.Valid(file("a", flat(12, 1), starts...)); e != want {
			t.Errorf("Valid with %d starts = %d, want %d", n, e, want)
		}
	}
	if e := mapfile.Valid(file("a", flat(2, 1), make([]api.Pos, 100000)...)); e != api.ErrLimit {
		t.Errorf("Valid with many starts = %d", e)
	}
}

// P8.1: where starts may be.
func TestValidStarts(t *testing.T) {
	for i, c := range sorts() {
		want := api.ErrBlocked
		if c.Kind == api.TGround || c.Kind == api.TOre {
			want = api.OK
		}
		m := row(append(sorts(), api.Cell{Kind: api.TGround})...)
		for _, starts := range [][]api.Pos{{at(i, 0), at(5, 0)}, {at(5, 0), at(i, 0)}} {
			if e := mapfile.Valid(file("a", m, starts...)); e != want {
				t.Errorf("Valid with a start on the kind %d = %d, want %d", c.Kind, e, want)
			}
		}
	}
	for _, p := range outside(3, 2) {
		for _, starts := range [][]api.Pos{{p, at(0, 0)}, {at(0, 0), p}, {at(0, 0), at(1, 1), at(2, 0), at(2, 1), at(1, 0), p}} {
			if e := mapfile.Valid(file("a", flat(3, 2), starts...)); e != api.ErrBlocked {
				t.Errorf("Valid with the starts %v = %d", starts, e)
			}
		}
	}
	// All pairs of starts, which differ in one coordinate or in both.
	for i := range 6 {
		for j := range 6 {
			p, q := at(i%3, i/3), at(j%3, j/3)
			if e := mapfile.Valid(file("a", flat(3, 2), p, q)); (e == api.ErrDuplicate) != (i == j) || (e == api.OK) == (i == j) {
				t.Errorf("Valid with the starts %v and %v = %d", p, q, e)
			}
		}
	}
}

// P8.1: the first error in the chapter's order counts, and the first start that has one.
func TestValidOrder(t *testing.T) {
	m := row(api.Cell{Kind: api.TGround}, api.Cell{Kind: api.TGround}, api.Cell{Kind: api.TRock})
	a, b, blocked, out := at(0, 0), at(1, 0), at(2, 0), at(3, 0)
	cases := []struct {
		f api.MapFile
		e api.Errno
	}{
		{file("", api.Map{}), api.ErrName}, {file("A", m, blocked, blocked), api.ErrName}, {file("1", m), api.ErrName}, {file("a", api.Map{}), api.ErrArg}, {file("a", api.Map{W: 1}, a, a), api.ErrArg}, {file("a", row(api.Cell{}), out, out), api.ErrArg},
		{file("a", m), api.ErrLimit}, {file("a", m, blocked), api.ErrLimit}, {file("a", m, a, a, a, a, a, a, a), api.ErrLimit}, {file("a", m, out, a, a, a, a, a, a), api.ErrLimit},
		{file("a", m, blocked, blocked), api.ErrBlocked}, {file("a", m, out, out), api.ErrBlocked}, {file("a", m, a, a, blocked), api.ErrDuplicate}, {file("a", m, a, blocked, a), api.ErrBlocked}, {file("a", m, blocked, a, a), api.ErrBlocked}, {file("a", m, a, b, a, out), api.ErrDuplicate},
		{file("a", m, a, b, out, b), api.ErrBlocked}, {file("a", m, a, b, b), api.ErrDuplicate}, {file("a", m, a, b, a), api.ErrDuplicate}, {file("a", m, a, b), api.OK}, {file("a", m, b, a), api.OK}, {file("a", m, a, a, a, a, a, a), api.ErrDuplicate},
	}
	for i, c := range cases {
		if e := mapfile.Valid(c.f); e != c.e {
			t.Errorf("case %d: %d, want %d", i, e, c.e)
		}
	}
}

// P8.1
func TestValidOfRandomFiles(t *testing.T) {
	random := rand.New(rand.NewSource(8))
	count := map[api.Errno]int{}
	for range 20000 {
		m := randomMap(random, 1+random.Intn(5), 1+random.Intn(5))
		f := file("a", m, randomStarts(random, m)...)
		want := valid(f, true)
		if e := mapfile.Valid(f); e != want {
			t.Fatalf("Valid(%v) = %d, want %d", f, e, want)
		}
		count[want]++
	}
	if len(count) != 4 || count[api.OK] < 1000 {
		t.Errorf("results: %v", count)
	}
}

// symmetrical returns a map that is the same when it is rotated.
func symmetrical(random *rand.Rand, w, h int) api.Map {
	m := randomMap(random, w, h)
	for y := range h {
		for x := range w {
			m.Cells[y*w+x] = m.Cells[min(y*w+x, (h-1-y)*w+w-1-x)]
		}
	}
	return m
}

// P8.4: the example of the chapter.
func TestMirrorExample(t *testing.T) {
	f := duel()
	f.Starts = f.Starts[:1]
	if g, e := mapfile.Mirror(f); e != api.OK || !equal(g, duel()) {
		t.Errorf("Mirror = %v, %d", g, e)
	}
}

// P8.4
func TestMirror(t *testing.T) {
	g, o := api.Cell{Kind: api.TGround}, api.Cell{Kind: api.TOre, Amount: 1}
	m := api.Map{W: 3, H: 2, Cells: []api.Cell{g, o, {Kind: api.TRock}, {Kind: api.TRock}, o, g}}
	cases := []struct {
		f      api.MapFile
		starts []api.Pos
		e      api.Errno
	}{
		{file("m", m, at(0, 0)), []api.Pos{at(0, 0), at(2, 1)}, api.OK}, {file("m", m, at(1, 1)), []api.Pos{at(1, 1), at(1, 0)}, api.OK}, {file("m", m, at(1, 0), at(2, 1)), []api.Pos{at(1, 0), at(2, 1), at(1, 1), at(0, 0)}, api.OK},
		{file("m", flat(4, 3), at(3, 0), at(0, 1), at(1, 0)), []api.Pos{at(3, 0), at(0, 1), at(1, 0), at(0, 2), at(3, 1), at(2, 2)}, api.OK},
		{file("m", m), nil, api.ErrLimit}, {file("m", flat(4, 3), at(0, 0), at(1, 0), at(2, 0), at(3, 0)), nil, api.ErrLimit}, {file("m", flat(4, 3), make([]api.Pos, 4000)...), nil, api.ErrLimit},
		{file("m", m, at(2, 0)), nil, api.ErrBlocked}, {file("m", m, at(0, 0), at(0, 1)), nil, api.ErrBlocked}, {file("m", m, at(0, 0), at(2, 1)), nil, api.ErrDuplicate}, {file("m", m, at(0, 0), at(0, 0)), nil, api.ErrDuplicate}, {file("m", m, at(0, 0), at(0, 0), at(2, 0)), nil, api.ErrDuplicate}, {file("m", m, at(0, 0), at(2, 0), at(0, 0)), nil, api.ErrBlocked},
		// The position in the middle is its own rotated one.
		{file("m", flat(1, 1), at(0, 0)), nil, api.ErrDuplicate}, {file("m", flat(3, 3), at(1, 1)), nil, api.ErrDuplicate}, {file("m", flat(3, 3), at(0, 0), at(1, 1)), nil, api.ErrDuplicate}, {file("m", flat(3, 2), at(1, 1)), []api.Pos{at(1, 1), at(1, 0)}, api.OK},
		// A start may be rotated onto another start.
		{file("m", flat(3, 3), at(0, 0), at(2, 2)), nil, api.ErrDuplicate},
	}
	for i, c := range cases {
		want := api.MapFile{}
		if c.e == api.OK {
			want = file(c.f.Name, c.f.Map, c.starts...)
		}
		if g, e := mapfile.Mirror(c.f); e != c.e || !equal(g, want) {
			t.Errorf("case %d: %v, %d, want %v, %d", i, g.Starts, e, c.starts, c.e)
		}
	}
	for _, p := range outside(3, 2) {
		if g, e := mapfile.Mirror(file("m", m, p)); e != api.ErrBlocked || !isZero(g) {
			t.Errorf("Mirror with the start %v = %v, %d", p, g, e)
		}
	}
}

// P8.4: the errors, and their order.
func TestMirrorErrors(t *testing.T) {
	lopsided := flat(2, 2)
	lopsided.Cells[1].Height = 1
	check := func(f api.MapFile, want api.Errno) {
		t.Helper()
		if g, e := mapfile.Mirror(f); e != want || !isZero(g) {
			t.Errorf("Mirror(%v) = %v, %d, want %d", f, g, e, want)
		}
	}
	for _, name := range names() {
		if isName(name) {
			check(file(name, lopsided, at(0, 0)), api.ErrConflict)
			continue
		}
		check(file(name, flat(2, 1), at(0, 0)), api.ErrArg)
		check(file(name, lopsided), api.ErrArg)
		check(file(name, api.Map{}), api.ErrArg)
	}
	for _, m := range badMaps() {
		check(file("a", m, at(0, 0)), api.ErrArg)
		check(file("a", m), api.ErrArg)
	}
	check(file("a", lopsided), api.ErrConflict)
	check(file("a", lopsided, at(9, 9)), api.ErrConflict)
	check(file("a", lopsided, at(0, 0), at(0, 0)), api.ErrConflict)
}

// P8.4: each cell and each number of a cell counts, and a map that is only reflected is not the same.
func TestMirrorConflicts(t *testing.T) {
	for _, sides := range [][2]int{{1, 2}, {2, 1}, {2, 2}, {3, 3}, {4, 3}, {3, 4}, {32, 32}, {31, 2}} {
		w, h := sides[0], sides[1]
		for i := range w * h {
			changes := []api.Cell{{Kind: api.TWater}, {Kind: api.TGround, Height: 1}, {Kind: api.TOre, Amount: 6}, {Kind: api.TForest, Amount: 5}}
			for _, c := range changes {
				m := flat(w, h)
				m.Cells[i] = c
				if i != w*h-1-i {
					m.Cells[w*h-1-i] = api.Cell{Kind: api.TOre, Amount: 5}
				}
				want := api.ErrConflict
				if i == w*h-1-i {
					want = api.ErrLimit
				}
				if g, e := mapfile.Mirror(file("a", m)); e != want || !isZero(g) {
					t.Fatalf("Mirror of %d by %d with %v at %d = %v, %d, want %d", w, h, c, i, g, e, want)
				}
			}
		}
	}
	rock := api.Cell{Kind: api.TRock}
	reflected := []api.Map{flat(2, 2), flat(2, 2), flat(2, 2)}
	reflected[0].Cells[0], reflected[0].Cells[1] = rock, rock
	reflected[1].Cells[0], reflected[1].Cells[2] = rock, rock
	reflected[2].Cells[1] = rock
	for i, m := range reflected {
		if _, e := mapfile.Mirror(file("a", m, at(1, 1))); e != api.ErrConflict {
			t.Errorf("reflected map %d: %d", i, e)
		}
	}
	diagonal := flat(2, 2)
	diagonal.Cells[1], diagonal.Cells[2] = rock, rock
	if g, e := mapfile.Mirror(file("a", diagonal, at(1, 1))); e != api.OK || !equal(g, file("a", diagonal, at(1, 1), at(0, 0))) {
		t.Errorf("Mirror = %v, %d", g, e)
	}
}

// P8.4 and P8.6
func TestMirrorOfRandomFiles(t *testing.T) {
	random := rand.New(rand.NewSource(88))
	count := map[api.Errno]int{}
	for range 20000 {
		m := symmetrical(random, 1+random.Intn(6), 1+random.Intn(6))
		f := file("a", m, randomStarts(random, m)...)
		want := clone(f)
		for _, p := range f.Starts {
			want.Starts = append(want.Starts, at(m.W-1-p.X, m.H-1-p.Y))
		}
		wantE := valid(want, true)
		if wantE != api.OK {
			want = api.MapFile{}
		}
		g, e := mapfile.Mirror(f)
		if e != wantE || !equal(g, want) {
			t.Fatalf("Mirror(%v) = %v, %d, want %v, %d", f, g, e, want, wantE)
		}
		count[e]++
		checkSymmetry(t, g)
	}
	if len(count) != 4 || count[api.OK] < 1000 {
		t.Errorf("results: %v", count)
	}
}

// checkSymmetry checks that the starts of f, rotated, are the same positions, and that their number is even.
func checkSymmetry(t *testing.T, f api.MapFile) {
	t.Helper()
	for _, p := range f.Starts {
		if !slices.Contains(f.Starts, at(f.Map.W-1-p.X, f.Map.H-1-p.Y)) || len(f.Starts)%2 != 0 {
			t.Fatalf("the starts %v of a map of %d by %d cells", f.Starts, f.Map.W, f.Map.H)
		}
	}
}

// General rule 0.4: arguments are not changed. Rule 7 of the language: results share no memory with them.
func TestArgumentsAreNotChanged(t *testing.T) {
	// Room behind the lists, which nothing may be written to.
	f := duel()
	f.Starts = append(make([]api.Pos, 0, 8), at(0, 0))
	f.Map.Cells = append(make([]api.Cell, 0, 8), f.Map.Cells...)
	before, room := clone(f), clone(file("", api.Map{Cells: f.Map.Cells[:8]}, f.Starts[:8]...))
	g, e := mapfile.Mirror(f)
	mapfile.Valid(f)
	mapfile.Print(f)
	mapfile.Print(g)
	if e != api.OK || !equal(f, before) || !reflect.DeepEqual(room, file("", api.Map{Cells: f.Map.Cells[:8]}, f.Starts[:8]...)) {
		t.Fatal("an argument was changed")
	}
	for i := range g.Map.Cells {
		g.Map.Cells[i].Height = 3
	}
	for i := range g.Starts {
		g.Starts[i] = at(7, 7)
	}
	if !equal(f, before) {
		t.Error("the result of Mirror shares memory with its argument")
	}
}
