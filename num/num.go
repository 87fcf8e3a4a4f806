// Package num is layer 1: numbers as keys: see shared/doc/01-num.md.
package num

import (
	"math"

	"humus/api"
)

// nanBits are the bits of the one NaN that stands for all of them; signBit is the highest bit of a number, and of a rank.
const (
	nanBits = 0x7FF8000000000001
	signBit = 1 << 63
)

// Key is a number's key.
func Key(x float64) float64 {
	if x == 0 { // a nought with a sign is equal to 0, too
		return 0
	}
	return Value(x)
}

// Value is a number's value.
func Value(x float64) float64 {
	if math.IsNaN(x) {
		return theNaN()
	}
	return x
}

// Same tells whether numbers' bits are alike.
func Same(a, b float64) bool { return math.Float64bits(a) == math.Float64bits(b) }

// Rank is a key's rank.
func Rank(x float64) uint64 {
	b := math.Float64bits(Key(x))
	if b&signBit != 0 { // a greater size below 0 is a lesser number
		return ^b
	}
	return b | signBit
}

// Of is the key of a rank.
func Of(rank uint64) (float64, api.Errno) {
	b := ^rank
	if rank&signBit != 0 {
		b = rank &^ signBit
	}
	x := math.Float64frombits(b)
	if !Same(x, Key(x)) { // the bits of a nought with a sign, or of another NaN
		return 0, api.ErrArg
	}
	return x, api.OK
}

// Compare is how keys are ordered.
func Compare(a, b float64) int {
	switch {
	case isAhead(a, b):
		return -1
	case isAhead(b, a):
		return 1
	}
	return 0
}

// Next is the least key above one; false: there is none.
func Next(x float64) (float64, bool) {
	switch {
	case math.IsNaN(x):
		return 0, false
	case math.IsInf(x, 1):
		return theNaN(), true
	}
	return Key(math.Nextafter(x, math.Inf(1))), true // from below 0 it comes to the nought with a sign
}

// Add is the value of a sum.
func Add(a, b float64) float64 { return Value(a + b) }

// Between tells whether a key is in a range.
func Between(x, lo, hi float64) bool { return !isAhead(x, lo) && isAhead(x, hi) }

// isAhead takes the language's order, in which noughts are equal whatever their signs, and lays NaN behind all: there no NaN is less than anything.
func isAhead(a, b float64) bool {
	if math.IsNaN(b) {
		return !math.IsNaN(a)
	}
	return a < b
}

func theNaN() float64 { return math.Float64frombits(nanBits) }
