package whole

import (
	"math/bits"
	"slices"

	"pylon/api"
)

// DivMod returns the quotient q and the remainder r of a divided by b, so that 0 <= r < |b|.
func DivMod(a, b api.Z) (q, r api.Z, e api.Errno) {
	x, y := trim(a.W), trim(b.W)
	if len(y) == 0 {
		return api.Z{}, api.Z{}, api.ErrZero
	}
	quotient, rest := divide(x, y)
	if a.Neg && len(trim(rest)) > 0 {
		// Division of the magnitudes leaves the remainder -rest, which one more divisor makes positive.
		quotient = combine(quotient, []uint32{1}, 1, 1)
		rest = combine(y, rest, 1, -1)
	}
	return integer(a.Neg != b.Neg, quotient), integer(false, rest), api.OK
}

// divide returns the quotient and the remainder of trimmed magnitudes, y not 0, each in new memory.
func divide(x, y []uint32) (quotient, rest []uint32) {
	switch {
	case compare(x, y) < 0:
		return nil, slices.Clone(x)
	case len(x) <= 2:
		u, v := toUint64(x), toUint64(y)
		return toWords(u / v), toWords(u % v)
	case len(y) == 1:
		quotient = slices.Clone(x)
		return quotient, []uint32{divideByWord(quotient, y[0])}
	}
	return divideLong(x, y)
}

// divideByWord replaces x by its quotient by d and returns the remainder.
func divideByWord(x []uint32, d uint32) uint32 {
	var rest uint64
	for i, word := range slices.Backward(x) {
		t := rest<<32 | uint64(word)
		x[i] = uint32(t / uint64(d))
		rest = t % uint64(d)
	}
	return uint32(rest)
}

// divideLong is divide for x >= y with at least two words each: Knuth's algorithm D.
func divideLong(x, y []uint32) (quotient, rest []uint32) {
	// With the highest bit of the divisor set, guesses of quotient words are at most 1 too large.
	shift := bits.LeadingZeros32(y[len(y)-1])
	rest, divisor := shiftLeft(x, shift), trim(shiftLeft(y, shift))
	quotient = make([]uint32, len(rest)-len(divisor))
	for i := range slices.Backward(quotient) {
		part := rest[i : i+len(divisor)+1]
		guess := guessWord(part, divisor)
		if subtractMultiple(part, divisor, guess) {
			guess--
			addBack(part, divisor)
		}
		quotient[i] = guess
	}
	shiftRight(rest, shift)
	return quotient, rest
}

// shiftLeft returns the words shifted by fewer than 32 bits, with one word more, in new memory.
func shiftLeft(words []uint32, shift int) []uint32 {
	shifted := make([]uint32, len(words)+1)
	for i, word := range words {
		wide := uint64(word) << shift
		shifted[i] |= uint32(wide)
		shifted[i+1] = uint32(wide >> 32)
	}
	return shifted
}

// shiftRight shifts the words in place by fewer than 32 bits.
func shiftRight(words []uint32, shift int) {
	var above uint32
	for i, word := range slices.Backward(words) {
		words[i] = uint32((uint64(above)<<32 | uint64(word)) >> shift)
		above = word
	}
}

// guessWord returns the quotient of part by divisor or that plus 1, judged by their highest words.
func guessWord(part, divisor []uint32) uint32 {
	n := len(divisor)
	high, second := uint64(divisor[n-1]), uint64(divisor[n-2])
	top := uint64(part[n])<<32 | uint64(part[n-1])
	guess := min(top/high, 1<<32-1)
	for rest := top - guess*high; rest < 1<<32 && guess*second > rest<<32|uint64(part[n-2]); rest += high {
		guess--
	}
	return uint32(guess)
}

// subtractMultiple subtracts factor y from x, which has one word more than y, and reports whether it wrapped around.
func subtractMultiple(x, y []uint32, factor uint32) bool {
	product, less := multiplier(factor, 0), combiner(1, -1)
	for i, word := range y {
		x[i] = less(x[i], product(word, 0))
	}
	x[len(y)] = less(x[len(y)], product(0, 0))
	return less(0, 0) != 0
}

// addBack adds y to x, which has one word more than y, and drops the carry, which undoes a wraparound.
func addBack(x, y []uint32) {
	more := combiner(1, 1)
	for i, word := range y {
		x[i] = more(x[i], word)
	}
	x[len(y)] = more(x[len(y)], 0)
}
