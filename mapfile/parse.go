package mapfile

import (
	"slices"
	"strconv"
	"strings"

	"skirmish/api"
	"skirmish/grid"
)

// maxHeight is the greatest height of a cell.
const maxHeight = 3

// reader reads the lines of a text in order.
type reader struct {
	rest string      // what has not been read yet
	line int         // the number of the line that was read last
	file api.MapFile // what has been read
}

// Parse returns the map file whose text is s and 0. If there is none, it returns the number of the first wrong line, or 0 if s is too long or the map file is not valid.
func Parse(s string) (api.MapFile, int, api.Errno) {
	if len(s) > api.MaxText {
		return api.MapFile{}, 0, api.ErrLimit
	}
	r := reader{rest: s}
	for _, part := range []func() api.Errno{r.head, r.kinds, r.heights, r.amounts, r.starts} {
		if e := part(); e != api.OK {
			return api.MapFile{}, r.line, e
		}
	}
	if e := Valid(r.file); e != api.OK {
		return api.MapFile{}, 0, e
	}
	return r.file, 0, api.OK
}

// head reads the line of the name and the sides.
func (r *reader) head() api.Errno {
	return r.read(func(line string) bool {
		behind, isHead := strings.CutPrefix(line, mapWord+" ")
		name, sides, _ := strings.Cut(behind, " ")
		w, h, ok := pair(sides, 1, api.MaxSide)
		if !isHead || !isName(name) || !ok {
			return false
		}
		r.file.Name = name
		r.file.Map = api.Map{W: w, H: h, Cells: make([]api.Cell, w*h)}
		return true
	})
}

// kinds reads the lines of the kinds.
func (r *reader) kinds() api.Errno {
	characters := kindCharacters()
	return r.rows(func(c *api.Cell, character byte) bool {
		kind, ok := kindOf(characters, character)
		c.Kind = kind
		return ok
	})
}

// heights reads the lines of the heights.
func (r *reader) heights() api.Errno {
	return r.rows(func(c *api.Cell, character byte) bool {
		c.Height = int(character) - '0'
		return 0 <= c.Height && c.Height <= maxHeight
	})
}

// amounts reads the lines of the cells with a resource.
func (r *reader) amounts() api.Errno {
	m := r.file.Map
	for i := range m.Cells {
		if !hasResource(m.Cells[i].Kind) {
			continue
		}
		e := r.read(func(line string) bool {
			n, ok := amount(line, grid.At(m.W, i))
			m.Cells[i].Amount = n
			return ok
		})
		if e != api.OK {
			return e
		}
	}
	return api.OK
}

// starts reads the lines of the starts, which are all that follow.
func (r *reader) starts() api.Errno {
	for r.rest != "" {
		e := r.read(func(line string) bool {
			behind, isStart := strings.CutPrefix(line, startWord+" ")
			x, y, ok := pair(behind, 0, api.MaxSide-1)
			r.file.Starts = append(r.file.Starts, api.Pos{X: x, Y: y})
			return isStart && ok
		})
		if e != api.OK {
			return e
		}
	}
	return api.OK
}

// rows reads a line for each row of the map; set gives a cell what its character says, and tells whether that is something.
func (r *reader) rows(set func(c *api.Cell, character byte) bool) api.Errno {
	for row := range slices.Chunk(r.file.Map.Cells, r.file.Map.W) {
		e := r.read(func(line string) bool { return setRow(row, line, set) })
		if e != api.OK {
			return e
		}
	}
	return api.OK
}

// read reads the next line; take tells whether the line has its form, and keeps what it says.
func (r *reader) read(take func(line string) bool) api.Errno {
	r.line++
	line, rest, complete := strings.Cut(r.rest, "\n")
	if !complete {
		return api.ErrTruncated
	}
	if !take(line) {
		return api.ErrSyntax
	}
	r.rest = rest
	return api.OK
}

// setRow gives each cell of a row what its character in the line says.
func setRow(row []api.Cell, line string, set func(c *api.Cell, character byte) bool) bool {
	if len(line) != len(row) {
		return false
	}
	for i := range row {
		if !set(&row[i], line[i]) {
			return false
		}
	}
	return true
}

// kindOf returns the kind with a character. The order of the range does not matter, because all characters differ.
func kindOf(characters map[int]byte, character byte) (int, bool) {
	for kind, c := range characters {
		if c == character {
			return kind, true
		}
	}
	return 0, false
}

// amount returns the number at the end of the line of the cell p, which has a resource.
func amount(line string, p api.Pos) (int, bool) {
	word, ok := strings.CutPrefix(line, words(amountWord, p.X, p.Y)+" ")
	if !ok {
		return 0, false
	}
	return number(word, 1, api.MaxAmount)
}

// pair returns the two numbers from least to most that a text consists of.
func pair(text string, least, most int) (int, int, bool) {
	first, second, _ := strings.Cut(text, " ")
	a, isNumber := number(first, least, most)
	b, isOther := number(second, least, most)
	return a, b, isNumber && isOther
}

// number returns the number from least to most that a word is the decimal form of.
func number(word string, least, most int) (int, bool) {
	n, err := strconv.Atoi(word)
	// Atoi also accepts signs and leading zeros, which the decimal form does not have.
	if err != nil || strconv.Itoa(n) != word || n < least || n > most {
		return 0, false
	}
	return n, true
}
