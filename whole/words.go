package whole

import (
	"cmp"
	"iter"
	"slices"
)

// A magnitude is a slice of words in base 2^32, the least significant first.

// trim returns the words without the zero words at their end. It shares their memory.
func trim(words []uint32) []uint32 {
	n := len(words)
	for n > 0 && words[n-1] == 0 {
		n--
	}
	return words[:n]
}

// toWords returns the magnitude n.
func toWords(n uint64) []uint32 {
	return trim([]uint32{uint32(n), uint32(n >> 32)})
}

// toUint64 returns the value of at most two words.
func toUint64(words []uint32) uint64 {
	var n uint64
	for i, word := range words {
		n |= uint64(word) << (32 * i)
	}
	return n
}

// compare returns -1, 0 or 1 if x < y, x = y or x > y, for trimmed magnitudes.
func compare(x, y []uint32) int {
	if len(x) != len(y) {
		return cmp.Compare(len(x), len(y))
	}
	for i, word := range slices.Backward(x) {
		if word != y[i] {
			return cmp.Compare(word, y[i])
		}
	}
	return 0
}

// pairs visits the words of x and y from the least significant on; where one of them has no word, 0 stands in.
func pairs(x, y []uint32) iter.Seq2[uint32, uint32] {
	return func(yield func(u, v uint32) bool) {
		for i := range max(len(x), len(y)) {
			var u, v uint32
			if i < len(x) {
				u = x[i]
			}
			if i < len(y) {
				v = y[i]
			}
			if !yield(u, v) {
				return
			}
		}
	}
}

// combiner returns a function that, called with the words of x and y in turn, returns those of p x + q y.
// The factors are both 1, or they differ in sign and are less than 2^31 in size: then no sum exceeds an int64.
func combiner(p, q int64) func(u, v uint32) uint32 {
	var carry int64
	return func(u, v uint32) uint32 {
		t := p*int64(u) + q*int64(v) + carry
		carry = t >> 32
		return uint32(t)
	}
}

// combine returns p x + q y, which must not be negative, in new memory; combiner limits the factors.
func combine(x, y []uint32, p, q int64) []uint32 {
	next := combiner(p, q)
	words := make([]uint32, 0, max(len(x), len(y))+1)
	for u, v := range pairs(x, y) {
		words = append(words, next(u, v))
	}
	return append(words, next(0, 0))
}

// multiplier returns a function that, called with the words of x and y in turn, returns those of factor x + y + carry.
func multiplier(factor, carry uint32) func(u, v uint32) uint32 {
	rest := uint64(carry)
	return func(u, v uint32) uint32 {
		t := uint64(factor)*uint64(u) + uint64(v) + rest
		rest = t >> 32
		return uint32(t)
	}
}

// multiply returns x y in new memory.
func multiply(x, y []uint32) []uint32 {
	product := make([]uint32, len(x)+len(y))
	for i, factor := range x {
		next := multiplier(factor, 0)
		for k, word := range y {
			product[i+k] = next(word, product[i+k])
		}
		product[i+len(y)] = next(0, 0)
	}
	return product
}
