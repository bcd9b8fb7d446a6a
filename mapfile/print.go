package mapfile

import (
	"slices"
	"strconv"
	"strings"

	"skirmish/api"
	"skirmish/grid"
)

// The words at the beginning of lines.
const (
	mapWord    = "map"
	amountWord = "amount"
	startWord  = "start"
)

// Print returns the text of f, and what is wrong with f if it is not valid.
func Print(f api.MapFile) (string, api.Errno) {
	if e := Valid(f); e != api.OK {
		return "", e
	}
	var text strings.Builder
	text.WriteString(words(mapWord+" "+f.Name, f.Map.W, f.Map.H) + "\n")
	characters := kindCharacters()
	text.WriteString(rows(f.Map, func(c api.Cell) byte { return characters[c.Kind] }))
	text.WriteString(rows(f.Map, func(c api.Cell) byte { return '0' + byte(c.Height) }))
	for i, c := range f.Map.Cells {
		if hasResource(c.Kind) {
			p := grid.At(f.Map.W, i)
			text.WriteString(words(amountWord, p.X, p.Y, c.Amount) + "\n")
		}
	}
	for _, p := range f.Starts {
		text.WriteString(words(startWord, p.X, p.Y) + "\n")
	}
	return text.String(), api.OK
}

// words returns the beginning of a line and numbers, separated by spaces.
func words(beginning string, numbers ...int) string {
	for _, n := range numbers {
		beginning += " " + strconv.Itoa(n)
	}
	return beginning
}

// rows returns a line for each row of m, with a character for each cell.
func rows(m api.Map, character func(c api.Cell) byte) string {
	var text []byte
	for row := range slices.Chunk(m.Cells, m.W) {
		for _, c := range row {
			text = append(text, character(c))
		}
		text = append(text, '\n')
	}
	return string(text)
}

// kindCharacters returns the characters of the kinds.
func kindCharacters() map[int]byte {
	return map[int]byte{
		api.TGround: '.',
		api.TWater:  '~',
		api.TRock:   '#',
		api.TForest: 'T',
		api.TOre:    '*',
	}
}

// hasResource tells whether cells of a kind have a line of their own, which says how much of the resource they have.
func hasResource(kind int) bool {
	return kind == api.TForest || kind == api.TOre
}
