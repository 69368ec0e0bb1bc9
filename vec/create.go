package vec

import (
	"pylon/api"
	"pylon/frac"
)

// maxLength limits the vectors whose length is an argument.
const maxLength = 65536

// Unit returns a vector of length n whose element at index k, if there is one, is 1 and whose other elements are 0.
func Unit(n, k int) []api.Q {
	unit := Resize(nil, n)
	if 0 <= k && k < len(unit) {
		unit[k] = frac.FromInt64(1)
	}
	return unit
}

// Resize returns a vector of length n with the elements of a, truncated or padded with zeros.
func Resize(a []api.Q, n int) []api.Q {
	if n < 1 {
		return nil
	}
	resized := make([]api.Q, min(n, maxLength))
	for i := range min(len(a), len(resized)) {
		resized[i] = frac.Canonical(a[i])
	}
	return resized
}

// FromInts returns the vector of the given integers.
func FromInts(l ...int64) []api.Q {
	elements := make([]api.Q, 0, len(l))
	for _, n := range l {
		elements = append(elements, frac.FromInt64(n))
	}
	return elements
}
