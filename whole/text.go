package whole

import (
	"slices"
	"strings"

	"pylon/api"
)

// Text is converted nine digits at a time, as many as always fit a word.
const (
	chunkDigits = 9
	chunk       = 1000000000
)

// Format returns the decimal representation of a.
func Format(a api.Z) string {
	rest := slices.Clone(trim(a.W))
	if len(rest) == 0 {
		return "0"
	}
	// A word has fewer than ten digits. They come out from the last one on.
	text := make([]byte, 0, 10*len(rest)+chunkDigits+1)
	for len(rest) > 0 {
		part := divideByWord(rest, chunk)
		rest = trim(rest)
		for range chunkDigits {
			text = append(text, byte('0'+part%10))
			part /= 10
		}
	}
	for text[len(text)-1] == '0' {
		text = text[:len(text)-1]
	}
	if a.Neg {
		text = append(text, '-')
	}
	slices.Reverse(text)
	return string(text)
}

// Parse returns the integer with the decimal representation s.
func Parse(s string) (api.Z, api.Errno) {
	digits, neg := strings.CutPrefix(s, "-")
	if len(digits) > api.MaxDigits {
		return api.Z{}, api.ErrLong
	}
	if !isDecimal(digits) || neg && digits == "0" {
		return api.Z{}, api.ErrForm
	}
	return integer(neg, magnitude(digits)), api.OK
}

// isDecimal reports whether s is a decimal number without a sign and without leading zeros.
func isDecimal(s string) bool {
	for i := range len(s) {
		if s[i] < '0' || s[i] > '9' {
			return false
		}
	}
	return s == "0" || s != "" && s[0] != '0'
}

// magnitude returns the value of decimal digits.
func magnitude(digits string) []uint32 {
	var words []uint32
	var part, scale uint32 = 0, 1
	for i := range len(digits) {
		part = part*10 + uint32(digits[i]-'0')
		scale *= 10
		if scale == chunk || i == len(digits)-1 {
			words = scaleAndAdd(words, scale, part)
			part, scale = 0, 1
		}
	}
	return words
}

// scaleAndAdd returns scale words + part. It overwrites words.
func scaleAndAdd(words []uint32, scale, part uint32) []uint32 {
	next := multiplier(scale, part)
	for i, word := range words {
		words[i] = next(word, 0)
	}
	return trim(append(words, next(0, 0)))
}
