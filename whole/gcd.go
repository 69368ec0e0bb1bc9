package whole

import (
	"math/bits"
	"slices"

	"pylon/api"
)

// GCD returns the greatest common divisor of a and b, which is not negative.
func GCD(a, b api.Z) api.Z {
	x, y := trim(a.W), trim(b.W)
	if compare(x, y) < 0 {
		x, y = y, x
	}
	if len(y) > 2 {
		x, y = reduce(x, y)
	}
	if len(y) == 0 {
		return integer(false, slices.Clone(x))
	}
	if len(x) > 2 {
		_, rest := divide(x, y)
		x, y = y, rest
	}
	return integer(false, toWords(smallGCD(toUint64(x), toUint64(y))))
}

// smallGCD is Euclid's algorithm on machine words.
func smallGCD(x, y uint64) uint64 {
	for y != 0 {
		x, y = y, x%y
	}
	return x
}

// reduce follows Euclid's algorithm from a >= b, both of more than two words, until the smaller integer has at most two.
func reduce(a, b []uint32) (x, y []uint32) {
	// y keeps as many words as x, so that both have the same weights.
	x, y = slices.Clone(a), make([]uint32, len(a))
	copy(y, b)
	for len(trim(y)) > 2 {
		// Leading bits decide most steps, so that many of them take one pass over the words (Lehmer's algorithm).
		many := leadingSteps(leadingBits(x, y))
		if many.q != 0 {
			many.apply(x, y)
			x = trim(x)
			y = y[:len(x)]
			continue
		}
		divisor := trim(y)
		_, rest := divideLong(x, divisor)
		x, y = divisor, rest[:len(divisor)]
	}
	return x, trim(y)
}

// steps tells what some steps of Euclid's algorithm make of x and y: p x + q y and r x + s y.
type steps struct{ p, q, r, s int64 }

// apply makes the steps.
func (many steps) apply(x, y []uint32) {
	first, second := combiner(many.p, many.q), combiner(many.r, many.s)
	for i, word := range x {
		other := y[i]
		x[i], y[i] = first(word, other), second(word, other)
	}
}

// leadingBits returns the 63 highest bits of x, which has at least three words, and the bits of y with the same weights.
func leadingBits(x, y []uint32) (a, b int64) {
	first := len(x) - 3
	shift := bits.LeadingZeros32(x[first+2])
	lead := func(words []uint32) int64 {
		high := toUint64(words[first+1:])<<shift | uint64(words[first])>>(32-shift)
		return int64(high >> 1)
	}
	return lead(x), lead(y)
}

// leadingSteps returns as many steps of Euclid's algorithm as are certain for all integers with the leading bits a >= b.
// Such integers exceed a and b by less than one unit. After some steps, then, the greater one is off by less than |q|,
// the smaller one by less than |s|, and their difference by less than |q| + |s|; the steps are certain while neither the
// smaller one nor the difference can be negative. As a |s| never exceeds the first a, which is less than 2^63, and
// a >= b + |s| >= 2 |s|, no factor reaches 2^31.
func leadingSteps(a, b int64) steps {
	sure := steps{p: 1, s: 1}
	for b > 0 {
		n := a / b
		a, b = b, a-n*b
		next := steps{sure.r, sure.s, sure.p - n*sure.r, sure.q - n*sure.s}
		q, s := max(next.q, -next.q), max(next.s, -next.s)
		if b < s || a-b < q+s {
			break
		}
		sure = next
	}
	return sure
}
