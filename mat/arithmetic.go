package mat

import (
	"pylon/api"
	"pylon/frac"
	"pylon/vec"
)

// MulVec returns the matrix-vector product m x.
func MulVec(m [][]api.Q, x []api.Q) []api.Q {
	product := make([]api.Q, 0, len(m))
	for _, row := range m {
		product = append(product, vec.Dot(row, x))
	}
	return product
}

// VecMul returns the vector-matrix product y m.
func VecMul(y []api.Q, m [][]api.Q) []api.Q {
	return weightedSum(y, m, Cols(m))
}

// Mul returns the matrix product a b.
func Mul(a, b [][]api.Q) [][]api.Q {
	cols := Cols(b)
	return plan{rows: len(a), row: func(i int) []api.Q { return weightedSum(a[i], b, cols) }}.fill()
}

// Transpose returns the transpose of m.
func Transpose(m [][]api.Q) [][]api.Q {
	return plan{rows: Cols(m), row: func(i int) []api.Q { return column(m, i) }}.fill()
}

// Add returns a + b.
func Add(a, b [][]api.Q) [][]api.Q {
	return combine(a, b, vec.Add)
}

// Scale returns k m.
func Scale(k api.Q, m [][]api.Q) [][]api.Q {
	return plan{rows: len(m), row: func(i int) []api.Q { return vec.Scale(k, m[i]) }}.fill()
}

// Concat returns the block matrix [a b].
func Concat(a, b [][]api.Q) [][]api.Q {
	left, right := Cols(a), Cols(b)
	return combine(a, b, func(x, y []api.Q) []api.Q {
		row := make([]api.Q, left+right)
		write(row[:left], x)
		write(row[left:], y)
		return row
	})
}

// combine returns the matrix whose rows are the results of f for all pairs of rows.
func combine(a, b [][]api.Q, f func(x, y []api.Q) []api.Q) [][]api.Q {
	m := make([][]api.Q, 0, max(len(a), len(b)))
	for x, y := range rowPairs(a, b) {
		m = append(m, f(x, y))
	}
	return m
}

// weightedSum returns the vector of the given length that is the sum of the rows times their weights.
func weightedSum(weights []api.Q, rows [][]api.Q, length int) []api.Q {
	total := make([]api.Q, length)
	for i := range min(len(weights), len(rows)) {
		if frac.Sign(weights[i]) == 0 {
			continue
		}
		// vec.AddScaled would copy the total for every row, however short.
		for k, x := range rows[i] {
			if frac.Sign(x) != 0 {
				total[k] = frac.Add(total[k], frac.Mul(weights[i], x))
			}
		}
	}
	return total
}

// column returns column k of m.
func column(m [][]api.Q, k int) []api.Q {
	elements := make([]api.Q, 0, len(m))
	for i := range m {
		elements = append(elements, At(m, i, k))
	}
	return elements
}

// write overwrites the first elements of the target, which has at least the length of a, with those of a.
func write(target, a []api.Q) {
	for i, x := range a {
		target[i] = frac.Canonical(x)
	}
}
