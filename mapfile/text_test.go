package mapfile_test

import (
	"fmt"
	"math/rand"
	"regexp"
	"slices"
	"strconv"
	"strings"
	"testing"

	"skirmish/api"
	"skirmish/mapfile"
)

// duelText is the text of the chapter's example.
const duelText = `map duel 3 1
.*.
000
amount 1 0 9
start 0 0
start 2 0
`

// printed returns by the words of the chapter the text of a map file.
func printed(f api.MapFile) string {
	text := fmt.Sprintf("map %s %d %d\n", f.Name, f.Map.W, f.Map.H)
	amounts := ""
	var kinds, heights []string
	for y := range f.Map.H {
		kinds, heights = append(kinds, ""), append(heights, "")
		for x := range f.Map.W {
			c := f.Map.Cells[y*f.Map.W+x]
			kinds[y] += string("?.~#T*"[c.Kind])
			heights[y] += fmt.Sprint(c.Height)
			if c.Kind == api.TForest || c.Kind == api.TOre {
				amounts += fmt.Sprintf("amount %d %d %d\n", x, y, c.Amount)
			}
		}
	}
	text += strings.Join(kinds, "\n") + "\n" + strings.Join(heights, "\n") + "\n" + amounts
	for _, p := range f.Starts {
		text += fmt.Sprintf("start %d %d\n", p.X, p.Y)
	}
	return text
}

// The forms of lines.
var (
	headForm   = regexp.MustCompile(`^map ([a-z][a-z0-9_]{0,11}) ([1-9]|[12][0-9]|3[0-2]) ([1-9]|[12][0-9]|3[0-2])$`)
	kindForm   = regexp.MustCompile(`^[.~#T*]*$`)
	heightForm = regexp.MustCompile(`^[0-3]*$`)
	amountForm = regexp.MustCompile(`^amount ([0-9]|[1-9][0-9]) ([0-9]|[1-9][0-9]) ([1-9][0-9]{0,5}|1000000)$`)
	startForm  = regexp.MustCompile(`^start ([0-9]|[12][0-9]|3[01]) ([0-9]|[12][0-9]|3[01])$`)
)

func atoi(s string) int {
	n, _ := strconv.Atoi(s)
	return n
}

// parser reads a text by the words of the chapter. It stops at the first line that is wrong.
type parser struct {
	rest string
	line int
	e    api.Errno
}

// next returns the parts of the next line, and nil if it is wrong. A width that is not negative is the length of the line.
func (p *parser) next(form *regexp.Regexp, width int) []string {
	if p.e != api.OK {
		return nil
	}
	p.line++
	end := strings.IndexByte(p.rest, '\n')
	if end < 0 {
		p.e = api.ErrTruncated
		return nil
	}
	line := p.rest[:end]
	p.rest = p.rest[end+1:]
	parts := form.FindStringSubmatch(line)
	if parts == nil || width >= 0 && len(line) != width {
		p.e = api.ErrSyntax
		return nil
	}
	return parts
}

// parsed returns what Parse of a text should return.
func parsed(s string) (api.MapFile, int, api.Errno) {
	if len(s) > 32768 {
		return api.MapFile{}, 0, api.ErrLimit
	}
	p := &parser{rest: s}
	f := api.MapFile{}
	if head := p.next(headForm, -1); head != nil {
		f.Name = head[1]
		f.Map = flat(atoi(head[2]), atoi(head[3]))
	}
	for i := range f.Map.H {
		if kinds := p.next(kindForm, f.Map.W); kinds != nil {
			for x := range f.Map.W {
				f.Map.Cells[i*f.Map.W+x].Kind = strings.IndexByte("?.~#T*", kinds[0][x])
			}
		}
	}
	for i := range f.Map.H {
		if heights := p.next(heightForm, f.Map.W); heights != nil {
			for x := range f.Map.W {
				f.Map.Cells[i*f.Map.W+x].Height = int(heights[0][x] - '0')
			}
		}
	}
	for i, c := range f.Map.Cells {
		if c.Kind != api.TForest && c.Kind != api.TOre {
			continue
		}
		if parts := p.next(amountForm, -1); parts != nil {
			if atoi(parts[1]) != i%f.Map.W || atoi(parts[2]) != i/f.Map.W {
				p.e = api.ErrSyntax
			}
			f.Map.Cells[i].Amount = atoi(parts[3])
		}
	}
	for p.e == api.OK && p.rest != "" {
		if parts := p.next(startForm, -1); parts != nil {
			f.Starts = append(f.Starts, at(atoi(parts[1]), atoi(parts[2])))
		}
	}
	if p.e != api.OK {
		return api.MapFile{}, p.line, p.e
	}
	if e := valid(f, true); e != api.OK {
		return api.MapFile{}, 0, e
	}
	return f, 0, api.OK
}

// check checks Parse of a text, and that Print of what it returns is the text again (P8.5). It returns the error.
func check(t *testing.T, s string) api.Errno {
	t.Helper()
	f, line, e := mapfile.Parse(s)
	wantF, wantLine, wantE := parsed(s)
	if !equal(f, wantF) || line != wantLine || e != wantE {
		t.Fatalf("Parse(%q) = %v, %d, %d, want %v, %d, %d", s, f, line, e, wantF, wantLine, wantE)
	}
	if e == api.OK {
		if again, e := mapfile.Print(f); again != s || e != api.OK {
			t.Fatalf("Print of the map file of %q = %q, %d", s, again, e)
		}
	}
	return e
}

// samples are texts of valid map files with all kinds and heights.
func samples() []string {
	return []string{
		duelText,
		"map m 1 3\n.\nT\n.\n0\n3\n1\namount 0 1 1000000\nstart 0 0\nstart 0 2\n",
		"map a_2 4 3\n.~#T\n*..T\nTT**\n0123\n3210\n1111\namount 3 0 1\namount 0 1 20\namount 3 1 300\namount 0 2 4000\namount 1 2 50000\namount 2 2 600000\namount 3 2 7\nstart 0 1\nstart 0 0\nstart 2 2\n",
		"map abcdefghijkl 12 2\n...........*\n............\n000000000000\n123123123123\namount 11 0 10\nstart 11 0\nstart 11 1\nstart 10 1\nstart 0 1\nstart 9 0\nstart 8 0\n",
	}
}

// P8.2 and P8.3: the example of the chapter.
func TestTextExample(t *testing.T) {
	if s, e := mapfile.Print(duel()); s != duelText || e != api.OK {
		t.Errorf("Print = %q, %d", s, e)
	}
	if f, line, e := mapfile.Parse(duelText); !equal(f, duel()) || line != 0 || e != api.OK {
		t.Errorf("Parse = %v, %d, %d", f, line, e)
	}
	if f, line, e := mapfile.Parse(""); !isZero(f) || line != 1 || e != api.ErrTruncated {
		t.Errorf("Parse of the empty text = %v, %d, %d", f, line, e)
	}
}

// P8.2: lines of each sort, written out.
func TestPrint(t *testing.T) {
	m := api.Map{W: 2, H: 3, Cells: []api.Cell{{Kind: api.TGround, Height: 3}, {Kind: api.TForest, Height: 2, Amount: 1}, {Kind: api.TWater}, {Kind: api.TRock, Height: 1}, {Kind: api.TOre, Amount: 1000000}, {Kind: api.TGround}}}
	f := file("z_9", m, at(0, 2), at(0, 0), at(1, 2))
	want := "map z_9 2 3\n.T\n~#\n*.\n32\n01\n00\namount 1 0 1\namount 0 2 1000000\nstart 0 2\nstart 0 0\nstart 1 2\n"
	if s, e := mapfile.Print(f); s != want || e != api.OK {
		t.Errorf("Print = %q, %d", s, e)
	}
	if g, line, e := mapfile.Parse(want); !equal(f, g) || line != 0 || e != api.OK {
		t.Errorf("Parse = %v, %d, %d", g, line, e)
	}
}

// P8.2: the errors are those of Valid.
func TestPrintErrors(t *testing.T) {
	check := func(f api.MapFile, want api.Errno) {
		t.Helper()
		if s, e := mapfile.Print(f); s != "" || e != want {
			t.Errorf("Print(%v) = %q, %d, want %d", f, s, e, want)
		}
	}
	for _, name := range names() {
		if !isName(name) {
			check(file(name, flat(2, 1), at(0, 0), at(1, 0)), api.ErrName)
		}
	}
	for _, m := range badMaps() {
		check(file("a", m, at(0, 0), at(1, 0)), api.ErrArg)
	}
	check(file("", api.Map{}), api.ErrName)
	check(file("a", flat(2, 1), at(0, 0)), api.ErrLimit)
	check(file("a", flat(2, 1), make([]api.Pos, 7)...), api.ErrLimit)
	check(file("a", flat(2, 1), at(0, 0), at(0, 0)), api.ErrDuplicate)
	for _, p := range outside(2, 1) {
		check(file("a", flat(2, 1), at(0, 0), p), api.ErrBlocked)
	}
}

// P8.2, P8.3 and P8.5
func TestRoundTrip(t *testing.T) {
	random := rand.New(rand.NewSource(888))
	for i := range 3000 {
		w, h := 1+random.Intn(5), 2+random.Intn(5)
		if i%2 == 0 {
			w, h = h, w
		}
		if i%100 == 0 {
			w, h = 1+random.Intn(32), 2+random.Intn(31)
		}
		roundTrip(t, randomFile(random, w, h))
	}
	roundTrip(t, randomFile(random, 32, 32))
	roundTrip(t, randomFile(random, 32, 1))
	roundTrip(t, randomFile(random, 1, 32))
	// The longest text.
	m := flat(32, 32)
	for i := range m.Cells {
		m.Cells[i] = api.Cell{Kind: api.TOre, Height: 3, Amount: api.MaxAmount}
	}
	roundTrip(t, file("abcdefghijkl", m, at(31, 31), at(30, 31), at(31, 30), at(30, 30), at(29, 31), at(31, 29)))
}

func roundTrip(t *testing.T, f api.MapFile) {
	t.Helper()
	s, e := mapfile.Print(f)
	if s != printed(f) || e != api.OK {
		t.Fatalf("Print(%v) = %q, %d, want %q", f, s, e, printed(f))
	}
	if g, line, e := mapfile.Parse(s); !equal(f, g) || line != 0 || e != api.OK {
		t.Fatalf("Parse(%q) = %v, %d, %d, want %v", s, g, line, e, f)
	}
}

// P8.3: the number of a line and its error, for each sort of lines.
func TestParseErrors(t *testing.T) {
	const top = "map m 2 2\n.*\n..\n00\n00\namount 1 0 5\n"
	cases := []struct {
		s    string
		line int
		e    api.Errno
	}{
		{"\n", 1, api.ErrSyntax}, {" ", 1, api.ErrTruncated}, {"map Bad 0 0", 1, api.ErrTruncated}, {"map\n", 1, api.ErrSyntax}, {"map m\n", 1, api.ErrSyntax}, {"map m 2\n", 1, api.ErrSyntax}, {"map m 2 \n", 1, api.ErrSyntax}, {"map m  2 2\n", 1, api.ErrSyntax}, {"map m 2  2\n", 1, api.ErrSyntax}, {"map  m 2 2\n", 1, api.ErrSyntax}, {" map m 2 2\n", 1, api.ErrSyntax}, {"map m 2 2 \n", 1, api.ErrSyntax}, {"map m 2 2 2\n", 1, api.ErrSyntax}, {"map m 2 2\r\n", 1, api.ErrSyntax}, {"map\tm 2 2\n", 1, api.ErrSyntax}, {"Map m 2 2\n", 1, api.ErrSyntax}, {"mapm 2 2\n", 1, api.ErrSyntax}, {"m 2 2\n", 1, api.ErrSyntax}, {"map 2 2\n", 1, api.ErrSyntax},
		{"map m 0 2\n", 1, api.ErrSyntax}, {"map m 2 0\n", 1, api.ErrSyntax}, {"map m -1 2\n", 1, api.ErrSyntax}, {"map m 33 2\n", 1, api.ErrSyntax}, {"map m 2 33\n", 1, api.ErrSyntax}, {"map m 02 2\n", 1, api.ErrSyntax}, {"map m 2 02\n", 1, api.ErrSyntax}, {"map m +2 2\n", 1, api.ErrSyntax}, {"map m 0x2 2\n", 1, api.ErrSyntax}, {"map m 2. 2\n", 1, api.ErrSyntax}, {"map m 4294967298 2\n", 1, api.ErrSyntax}, {"map m 18446744073709551618 2\n", 1, api.ErrSyntax}, {"map m 2 1_0\n", 1, api.ErrSyntax},
		{"map m 32 32\n", 2, api.ErrTruncated}, {"map m 2 2\n.", 2, api.ErrTruncated}, {"map m 2 2\n..", 2, api.ErrTruncated}, {"map m 2 2\nxx", 2, api.ErrTruncated}, {"map m 2 2\n..\n", 3, api.ErrTruncated}, {"map m 2 2\n..\n..", 3, api.ErrTruncated}, {"map m 2 2\n..\n..\n", 4, api.ErrTruncated}, {"map m 2 2\n..\n..\n00\n", 5, api.ErrTruncated}, {"map m 2 2\n..\n..\n00\n00", 5, api.ErrTruncated}, {"map m 2 2\n..\n..\n00\n00\n", 0, api.ErrLimit},
		{"map m 2 2\n\n", 2, api.ErrSyntax}, {"map m 2 2\n.\n..\n", 2, api.ErrSyntax}, {"map m 2 2\n...\n.\n", 2, api.ErrSyntax}, {"map m 2 2\n..\n.t\n", 3, api.ErrSyntax}, {"map m 2 2\n..\n ..\n", 3, api.ErrSyntax}, {"map m 2 2\n..\n00\n", 3, api.ErrSyntax}, {"map m 2 2\n..\n..\n..\n", 4, api.ErrSyntax}, {"map m 2 2\n..\n..\n0\n", 4, api.ErrSyntax}, {"map m 2 2\n..\n..\n000\n", 4, api.ErrSyntax}, {"map m 2 2\n..\n..\n00\n04\n", 5, api.ErrSyntax}, {"map m 2 2\n..\n..\n00\n0-\n", 5, api.ErrSyntax}, {"map m 2 2\né\n..\n", 2, api.ErrSyntax}, {"map m 2 2\n.\xff\n..\n", 2, api.ErrSyntax}, {"map m 2 2\n.\x00\n", 2, api.ErrSyntax},
		{top[:len(top)-1], 6, api.ErrTruncated}, {top[:len(top)-13], 6, api.ErrTruncated}, {top[:len(top)-13] + "start 0 0\nstart 1 1\n", 6, api.ErrSyntax}, {top, 0, api.ErrLimit}, {top + "amount 1 0 5\nstart 0 0\nstart 1 1\n", 7, api.ErrSyntax}, {top + "\n", 7, api.ErrSyntax}, {top + "start 0 0\nstart 1 1\n\n", 9, api.ErrSyntax}, {top + "start 0 0\nstart 1 1\n ", 9, api.ErrTruncated}, {top + "start 0 0\nstart 1 1\nx\nstart 32 0\n", 9, api.ErrSyntax},
		{top + "start 0 0\nstart 1 1", 8, api.ErrTruncated}, {top + "start 0 0\nstart 1 32\n", 8, api.ErrSyntax}, {top + "start 32 0\n", 7, api.ErrSyntax}, {top + "start -1 0\n", 7, api.ErrSyntax}, {top + "start 0 -0\n", 7, api.ErrSyntax}, {top + "start 00 0\n", 7, api.ErrSyntax}, {top + "start 0 01\n", 7, api.ErrSyntax}, {top + "start 0\n", 7, api.ErrSyntax}, {top + "start 0 \n", 7, api.ErrSyntax}, {top + "start  0\n", 7, api.ErrSyntax}, {top + "start\n", 7, api.ErrSyntax}, {top + "start 0 0 0\n", 7, api.ErrSyntax}, {top + "start 0 0 \n", 7, api.ErrSyntax}, {top + "starts 0 0\n", 7, api.ErrSyntax}, {top + "0 0\n", 7, api.ErrSyntax},
		// The error of Valid comes last, after the forms of all lines.
		{top + "start 0 0\n", 0, api.ErrLimit}, {top + strings.Repeat("start 0 0\n", 7), 0, api.ErrLimit}, {top + strings.Repeat("start 0 0\n", 7) + "start 0 32\n", 14, api.ErrSyntax}, {top + "start 0 0\nstart 2 0\n", 0, api.ErrBlocked}, {top + "start 31 31\nstart 0 0\n", 0, api.ErrBlocked}, {top + "start 0 0\nstart 0 0\n", 0, api.ErrDuplicate}, {top + "start 0 0\nstart 0 0\nstart 2 2\n", 0, api.ErrDuplicate}, {top + "start 0 0\nstart 0 0\nstart 2 2", 9, api.ErrTruncated},
	}
	for _, c := range cases {
		if f, line, e := mapfile.Parse(c.s); !isZero(f) || line != c.line || e != c.e {
			t.Errorf("Parse(%q) = %v, %d, %d, want %d, %d", c.s, f, line, e, c.line, c.e)
		}
		check(t, c.s)
	}
}

// P8.3: the bound of the length, which comes before everything else.
func TestParseLongTexts(t *testing.T) {
	for _, fill := range []string{"a", "\n", "start 0 0\n", "\xff"} {
		long := strings.Repeat(fill, 70000)
		for _, length := range []int{32767, 32768, 32769, 65536, 70000} {
			if _, line, e := mapfile.Parse(long[:length]); (line == 0 && e == api.ErrLimit) != (length > 32768) {
				t.Errorf("Parse of %d bytes of %q: %d, %d", length, fill, line, e)
			}
			check(t, long[:length])
			check(t, (duelText + long)[:length])
		}
	}
}

// P8.3
func TestParseNames(t *testing.T) {
	for _, name := range names() {
		s := strings.Replace(duelText, "duel", name, 1)
		if e := check(t, s); (e == api.OK) != isName(name) {
			t.Errorf("Parse with the name %q: %d", name, e)
		}
	}
}

// P8.3: the characters of the kinds and heights.
func TestParseCharacters(t *testing.T) {
	kinds := map[byte]int{'.': api.TGround, '~': api.TWater, '#': api.TRock, 'T': api.TForest, '*': api.TOre}
	for c := range 256 {
		s := string([]byte{byte(c)})
		amount := ""
		if c == 'T' || c == '*' {
			amount = "amount 2 0 8\n"
		}
		f, _, e := mapfile.Parse("map m 3 1\n.." + s + "\n000\n" + amount + "start 0 0\nstart 1 0\n")
		if kind, ok := kinds[byte(c)]; (e == api.OK) != ok || ok && f.Map.Cells[2].Kind != kind {
			t.Errorf("the kind of %q: %v, %d", s, f.Map, e)
		}
		f, _, e = mapfile.Parse("map m 3 1\n...\n00" + s + "\nstart 0 0\nstart 1 0\n")
		if ok := '0' <= c && c <= '3'; (e == api.OK) != ok || ok && f.Map.Cells[2].Height != c-'0' {
			t.Errorf("the height of %q: %v, %d", s, f.Map, e)
		}
	}
}

// words are numbers and other words, many of which are no numbers of a text.
func words() []string {
	list := []string{"", "-", "+", "-0", "+0", "-1", "+1", "00", "01", "000001", "0x1", "1e1", "1.0", "1_0", "١", "a", "map", "amount", "start", "999999", "1000000", "1000001", "9999999", "4294967296", "4294967297", "9223372036854775807", "9223372036854775808", "18446744073709551616", "18446744073709551617", "-9223372036854775808", strings.Repeat("9", 1000), strings.Repeat("0", 1000)}
	for n := range 40 {
		list = append(list, strconv.Itoa(n))
	}
	return list
}

// P8.3: each word of a text replaced by another one.
func TestParseWords(t *testing.T) {
	for _, s := range samples() {
		for _, bound := range regexp.MustCompile(`[^ \n]+`).FindAllStringIndex(s, -1) {
			for _, word := range words() {
				check(t, s[:bound[0]]+word+s[bound[1]:])
			}
		}
	}
}

// P8.3: each byte of a text removed, replaced, or with another one before it; and each beginning of the text.
func TestParseBytes(t *testing.T) {
	accepted := 0
	for _, s := range samples() {
		if check(t, s) != api.OK {
			t.Fatalf("the sample %q is not accepted", s)
		}
		for i := range len(s) {
			check(t, s[:i])
			check(t, s[i:])
			check(t, s[:i]+s[i+1:])
			for _, c := range " \n\r\t\x00\x7f0123459.~#T*tamz_AZ-+/:" {
				if check(t, s[:i]+string(c)+s[i+1:]) == api.OK {
					accepted++
				}
				check(t, s[:i]+string(c)+s[i:])
			}
			check(t, s[:i]+"\xff"+s[i:])
			check(t, s+s[i:])
		}
	}
	if accepted < 100 {
		t.Errorf("only %d changed texts are accepted", accepted)
	}
}

// P8.3: each line of a text removed, doubled, exchanged with another one, or replaced by one of another text.
func TestParseLines(t *testing.T) {
	var others []string
	for _, s := range samples() {
		others = append(others, strings.SplitAfter(s, "\n")...)
	}
	for _, s := range samples() {
		lines := strings.SplitAfter(s, "\n")
		for i := range lines {
			check(t, strings.Join(slices.Delete(slices.Clone(lines), i, i+1), ""))
			check(t, strings.Join(slices.Insert(slices.Clone(lines), i, lines[i]), ""))
			for j := range lines {
				list := slices.Clone(lines)
				list[i], list[j] = list[j], list[i]
				check(t, strings.Join(list, ""))
			}
			for _, other := range others {
				list := slices.Clone(lines)
				list[i] = other
				check(t, strings.Join(list, ""))
			}
		}
	}
}

// P8.3: texts with several changes, taken from all samples.
func TestParseRandomTexts(t *testing.T) {
	random := rand.New(rand.NewSource(8888))
	list := samples()
	for range 20000 {
		s := list[random.Intn(len(list))]
		for range 1 + random.Intn(3) {
			other := list[random.Intn(len(list))]
			i, j := random.Intn(len(s)+1), random.Intn(len(other)+1)
			n := min(len(other)-j, random.Intn(12))
			s = s[:i] + other[j:j+n] + s[min(len(s), i+random.Intn(12)):]
		}
		check(t, s)
	}
}

// P8.3: two results share no memory.
func TestParseResultsAreNew(t *testing.T) {
	f, _, _ := mapfile.Parse(duelText)
	f.Map.Cells[0].Height, f.Starts[0] = 3, at(1, 0)
	if g, _, e := mapfile.Parse(duelText); e != api.OK || !equal(g, duel()) {
		t.Errorf("Parse = %v, %d", g, e)
	}
}
