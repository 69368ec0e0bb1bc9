package solve

import (
	"pylon/api"
	"pylon/frac"
	"pylon/mat"
	"pylon/vec"
)

// Inverse returns the inverse of m. It returns ErrSquare if m is not square, and ErrNone if m has no inverse.
func Inverse(m [][]api.Q) ([][]api.Q, api.Errno) {
	n := len(m)
	if !isSquare(m) {
		return nil, api.ErrSquare
	}
	r, pivots := newElimination(mat.Concat(m, identity(n))).run()
	inverse := make([][]api.Q, 0, n)
	for i, pivot := range pivots {
		if pivot != i {
			return nil, api.ErrNone
		}
		inverse = append(inverse, r[i][n:])
	}
	return inverse, api.OK
}

// Det returns the determinant of m, or ErrSquare if m is not square.
func Det(m [][]api.Q) (api.Q, api.Errno) {
	if !isSquare(m) {
		return api.Q{}, api.ErrSquare
	}
	// The reduced form has the determinant 1 or too few rows; each step towards it is taken back in det.
	det := frac.FromInt64(1)
	e := newElimination(rectangle(m))
	exchange, scale := e.exchange, e.scale
	e.exchange = func(i, k int) {
		det = frac.Neg(det)
		exchange(i, k)
	}
	e.scale = func(i int, by api.Q) {
		det, _ = frac.Div(det, by)
		scale(i, by)
	}
	if r, _ := e.run(); len(r) < len(m) {
		return api.Q{}, api.OK
	}
	return det, api.OK
}

func isSquare(m [][]api.Q) bool {
	return len(m) == mat.Cols(m)
}

// identity returns the identity matrix of size n, which mat.Identity limits.
func identity(n int) [][]api.Q {
	rows := make([][]api.Q, 0, n)
	for i := range n {
		rows = append(rows, vec.Unit(n, i))
	}
	return rows
}
