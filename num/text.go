package num

import (
	"math"
	"strconv"
	"strings"

	"skirmish/api"
)

// maxPlaces is the greatest number of decimal places: Scale divides 10^8.
const maxPlaces = 8

// Format returns the decimal text of n.
func Format(n int) string {
	var text []byte
	size := uint64(n)
	if n < 0 {
		text = append(text, '-')
		size = -size // unlike -n, it is exact for MinInt, too
	}
	text = strconv.AppendUint(text, size/api.Scale, 10)
	rest := size % api.Scale
	if rest > 0 {
		text = append(text, '.')
	}
	for rest > 0 {
		rest *= 10
		text = append(text, '0'+byte(rest/api.Scale))
		rest %= api.Scale
	}
	return string(text)
}

// Parse returns the int whose decimal text is s.
func Parse(s string) (int, api.Errno) {
	digits, negative := strings.CutPrefix(s, "-")
	whole, places, point := strings.Cut(digits, ".")
	if !wellFormed(whole, places, point) || s == "-0" {
		return 0, api.ErrSyntax
	}
	units, exact := fraction(places)
	if !exact {
		return 0, api.ErrSyntax
	}
	// ParseUint refuses digits only if their number needs more bits, and whatever it accepts leaves room for Scale.
	cells, err := strconv.ParseUint(whole, 10, 64-scaleBits)
	if err != nil {
		return 0, api.ErrOverflow
	}
	return signed(cells*api.Scale+units, negative)
}

// wellFormed tells whether the whole part and the decimal places have the form that they have in a decimal text.
func wellFormed(whole, places string, point bool) bool {
	if whole == "" || len(whole) > 1 && whole[0] == '0' {
		return false
	}
	if point && (places == "" || strings.HasSuffix(places, "0")) {
		return false
	}
	return allDigits(whole, places)
}

// allDigits tells whether all places of the parts of a decimal text are digits.
func allDigits(parts ...string) bool {
	digits := true
examine:
	for _, part := range parts {
		for i := range len(part) {
			if part[i] < '0' || part[i] > '9' {
				digits = false
				break examine
			}
		}
	}
	return digits
}

// fraction returns the length units that decimal places stand for, and false if these are not whole units.
func fraction(places string) (uint64, bool) {
	if len(places) > maxPlaces {
		return 0, false
	}
	n, scale := uint64(0), uint64(1)
	for i := range len(places) {
		n = n*10 + uint64(places[i]-'0')
		scale *= 10
	}
	n *= api.Scale
	if n%scale != 0 {
		return 0, false
	}
	return n / scale, true
}

// signed returns the int with an absolute value and a sign.
func signed(size uint64, negative bool) (int, api.Errno) {
	if negative && size <= -math.MinInt {
		return int(-size), api.OK
	}
	if !negative && size <= math.MaxInt {
		return int(size), api.OK
	}
	return 0, api.ErrOverflow
}
