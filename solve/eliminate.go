package solve

import (
	"iter"

	"pylon/api"
	"pylon/frac"
	"pylon/vec"
)

// An elimination brings rows of equal length into reduced row echelon form, in place.
type elimination struct {
	rows [][]api.Q
	// These two steps change the determinant of the rows. They are fields so that Det can watch them.
	exchange func(i, k int)
	scale    func(i int, by api.Q)
}

// newElimination returns an elimination of the given rows, which it will modify.
func newElimination(rows [][]api.Q) elimination {
	return elimination{
		rows:     rows,
		exchange: func(i, k int) { rows[i], rows[k] = rows[k], rows[i] },
		scale:    func(i int, by api.Q) { rows[i] = vec.Scale(by, rows[i]) },
	}
}

// run returns the rows of the reduced form and the columns of their pivots.
func (e elimination) run() (r [][]api.Q, columns []int) {
	for row, col := range e.pivots() {
		inverse, _ := frac.Div(frac.FromInt64(1), e.rows[row][col])
		e.scale(row, inverse)
		e.clear(row, col)
		columns = append(columns, col)
	}
	return e.rows[:len(columns)], columns
}

// pivots visits the places of the pivots, row by row, and brings a row with a nonzero element there into each.
// The next place can be found only when the visitor has cleared the column of the last one.
func (e elimination) pivots() iter.Seq2[int, int] {
	return func(yield func(row, col int) bool) {
		col := 0
		for row := range e.rows {
			from, at, is := e.find(row, col)
			if !is {
				return
			}
			if from != row {
				e.exchange(row, from)
			}
			if !yield(row, at) {
				return
			}
			col = at + 1
		}
	}
}

// find returns the place of a nonzero element in the first column that has one, not above the given row nor left of the given column.
func (e elimination) find(row, col int) (i, k int, is bool) {
search:
	for k = col; k < len(e.rows[row]); k++ {
		for i = row; i < len(e.rows); i++ {
			if frac.Sign(e.rows[i][k]) != 0 {
				is = true
				break search
			}
		}
	}
	return i, k, is
}

// clear makes all elements of a column 0 but its pivot, which is 1.
func (e elimination) clear(row, col int) {
	for i := range e.rows {
		if i != row && frac.Sign(e.rows[i][col]) != 0 {
			e.rows[i] = vec.AddScaled(frac.Neg(e.rows[i][col]), e.rows[row], e.rows[i])
		}
	}
}
