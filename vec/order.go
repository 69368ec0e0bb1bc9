package vec

import (
	"pylon/api"
	"pylon/frac"
)

// Compare returns -1, 0 or 1 if a is lexicographically less than, equal to or greater than b.
func Compare(a, b []api.Q) int {
	for x, y := range pairs(a, b) {
		if order := frac.Cmp(x, y); order != 0 {
			return order
		}
	}
	return 0
}

// Sign returns -1, 0 or 1 if a is lexicographically less than, equal to or greater than the zero vector.
func Sign(a []api.Q) int {
	return Compare(a, nil)
}

// Equal reports whether a and b have equal elements at every index.
func Equal(a, b []api.Q) bool {
	return Compare(a, b) == 0
}

// FirstGreater returns the smallest index at which a has a greater element than b, and whether there is one.
func FirstGreater(a, b []api.Q) (place int, is bool) {
	for x, y := range pairs(a, b) {
		if frac.Cmp(x, y) > 0 {
			return place, true
		}
		place++
	}
	return 0, false
}
