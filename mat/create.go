package mat

import (
	"pylon/api"
	"pylon/vec"
)

// maxSize limits the rows and the columns of matrices whose size is an argument.
const maxSize = 1024

// Resize returns a matrix of the given size with the elements of m, truncated or padded with zeros.
func Resize(m [][]api.Q, rows, cols int) [][]api.Q {
	width := allowed(cols)
	return plan{rows: allowed(rows), row: func(i int) []api.Q { return vec.Resize(rowAt(m, i), width) }}.fill()
}

// Identity returns the identity matrix of size n.
func Identity(n int) [][]api.Q {
	size := allowed(n)
	return plan{rows: size, row: func(i int) []api.Q { return vec.Unit(size, i) }}.fill()
}

// FromInts returns the matrix with the given rows of integers.
func FromInts(l ...[]int64) [][]api.Q {
	return plan{rows: len(l), row: func(i int) []api.Q { return vec.FromInts(l[i]...) }}.fill()
}

// allowed returns the permitted size that is closest to n.
func allowed(n int) int {
	return min(max(n, 0), maxSize)
}

// A plan tells how many rows a matrix has and makes each of them, in new memory.
type plan struct {
	rows int
	row  func(i int) []api.Q
}

// fill returns the matrix that is planned.
func (p plan) fill() [][]api.Q {
	m := make([][]api.Q, 0, p.rows)
	for i := range p.rows {
		m = append(m, p.row(i))
	}
	return m
}
