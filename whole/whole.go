// Package whole implements integers of any size.
package whole

import (
	"cmp"
	"math"
	"slices"

	"pylon/api"
)

// FromInt64 returns n as an integer.
func FromInt64(n int64) api.Z {
	size := uint64(n)
	if n < 0 {
		size = -size
	}
	return integer(n < 0, toWords(size))
}

// Int64 returns the value of a, and whether it is in the range of int64.
func Int64(a api.Z) (int64, bool) {
	words := trim(a.W)
	if len(words) > 2 {
		return 0, false
	}
	size := toUint64(words)
	switch {
	case size <= math.MaxInt64 && !a.Neg:
		return int64(size), true
	case size <= math.MaxInt64+1 && a.Neg:
		// The conversion and the sign change both wrap around for the least int64, and yield it.
		return -int64(size), true
	}
	return 0, false
}

// IsCanonical reports whether a is in canonical form.
func IsCanonical(a api.Z) bool {
	if len(a.W) == 0 {
		return !a.Neg
	}
	return a.W[len(a.W)-1] != 0
}

// Add returns a + b.
func Add(a, b api.Z) api.Z {
	return sum(a, b.Neg, b.W)
}

// Sub returns a - b.
func Sub(a, b api.Z) api.Z {
	return sum(a, !b.Neg, b.W)
}

// Mul returns a b.
func Mul(a, b api.Z) api.Z {
	return integer(a.Neg != b.Neg, multiply(trim(a.W), trim(b.W)))
}

// Neg returns -a.
func Neg(a api.Z) api.Z {
	return integer(!a.Neg, slices.Clone(a.W))
}

// Abs returns |a|.
func Abs(a api.Z) api.Z {
	return integer(false, slices.Clone(a.W))
}

// Sign returns -1, 0 or 1 if a is negative, zero or positive.
func Sign(a api.Z) int {
	switch {
	case len(trim(a.W)) == 0:
		return 0
	case a.Neg:
		return -1
	}
	return 1
}

// Cmp returns -1, 0 or 1 if a < b, a = b or a > b.
func Cmp(a, b api.Z) int {
	sign := Sign(a)
	if order := cmp.Compare(sign, Sign(b)); order != 0 {
		return order
	}
	return sign * compare(trim(a.W), trim(b.W))
}

// sum returns a plus the integer with the given sign and magnitude.
func sum(a api.Z, neg bool, magnitude []uint32) api.Z {
	x, y := trim(a.W), trim(magnitude)
	if a.Neg == neg {
		return integer(neg, combine(x, y, 1, 1))
	}
	if compare(x, y) < 0 {
		return integer(neg, combine(y, x, 1, -1))
	}
	return integer(a.Neg, combine(x, y, 1, -1))
}

// integer returns the canonical integer with the given sign and magnitude.
// It keeps words, which therefore have to be new memory.
func integer(neg bool, words []uint32) api.Z {
	words = trim(words)
	if len(words) == 0 {
		return api.Z{}
	}
	return api.Z{Neg: neg, W: words}
}
