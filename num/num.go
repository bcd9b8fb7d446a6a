// Package num is layer 1: fixed-point numbers (see shared/doc/01-num.md).
package num

import (
	"math"
	"math/bits"

	"skirmish/api"
)

// scaleBits makes a division by Scale, rounded down, a shift to the right: Scale is 1 << scaleBits.
const scaleBits = 8

// Div returns the floor of a / b.
func Div(a, b int) (int, api.Errno) {
	if b == 0 {
		return 0, api.ErrArg
	}
	if a == math.MinInt && b == -1 {
		return 0, api.ErrOverflow
	}
	q := a / b
	// Go rounds toward zero, which is too high if the exact quotient is negative.
	if a%b != 0 && (a < 0) != (b < 0) {
		q--
	}
	return q, api.OK
}

// Mul returns the floor of a * b / Scale, or the nearest int and ErrOverflow.
func Mul(a, b int) (int, api.Errno) {
	high, low := product(a, b)
	p := int(high<<(64-scaleBits)) | int(low>>scaleBits)
	// The bits that p leaves out have to repeat its sign.
	if high>>scaleBits == int64(p)>>63 {
		return p, api.OK
	}
	if high < 0 {
		return math.MinInt, api.ErrOverflow
	}
	return math.MaxInt, api.ErrOverflow
}

// product returns the exact product as a signed number of 128 bits.
func product(a, b int) (int64, uint64) {
	high, low := bits.Mul64(uint64(a), uint64(b))
	// As an unsigned number, a negative factor is 2^64 too great.
	if a < 0 {
		high -= uint64(b)
	}
	if b < 0 {
		high -= uint64(a)
	}
	return int64(high), low
}

// Isqrt returns the greatest r with r * r <= n, and 0 if n is negative.
func Isqrt(n int) int {
	if n <= 0 {
		return 0
	}
	// Newton's method falls from a start that is not below the root until it reaches the floor of the root.
	r := 1 << ((bits.Len64(uint64(n)) + 1) / 2)
	for {
		next := (r + n/r) / 2
		if next >= r {
			return r
		}
		r = next
	}
}

// Clamp returns the greater one of lo and the lesser one of n and hi.
func Clamp(n, lo, hi int) int {
	return max(lo, min(n, hi))
}

// Cell returns the cell in which a coordinate lies.
func Cell(x int) int {
	return x >> scaleBits
}

// Center returns the coordinate of the center of a cell, or the nearest int.
func Center(c int) int {
	if c < Cell(math.MinInt) {
		return math.MinInt
	}
	if c > Cell(math.MaxInt) {
		return math.MaxInt
	}
	return c*api.Scale + api.Scale/2
}
