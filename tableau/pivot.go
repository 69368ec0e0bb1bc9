package tableau

import (
	"slices"

	"pylon/api"
	"pylon/frac"
	"pylon/vec"
)

// Pivot replaces the basic column of the row by col. It returns ErrNil if the receiver is missing, ErrArg if there is no such
// row or column or the column is in the basis, and ErrZero if the row has the element 0 in that column.
func (t *Tableau) Pivot(row, col int) api.Errno {
	switch {
	case t.isMissing():
		return api.ErrNil
	case row < 0 || row >= len(t.equations) || !t.has(col) || slices.Contains(t.basis, col):
		return api.ErrArg
	case frac.Sign(t.equations[row][col]) == 0:
		return api.ErrZero
	}
	t.equations = solveFor(t.equations, row, col).apply(t.equations)
	t.basis = t.Basis()
	t.basis[row] = col
	return api.OK
}

// A transformation turns the equation at each index into one of another tableau.
type transformation struct {
	equation func(i int, old []api.Q) []api.Q
}

// apply returns the equations that the transformation yields.
func (f transformation) apply(equations [][]api.Q) [][]api.Q {
	transformed := make([][]api.Q, 0, len(equations))
	for i, old := range equations {
		transformed = append(transformed, f.equation(i, old))
	}
	return transformed
}

// solveFor returns the transformation that makes a column 1 in the given row, where it must not be 0 yet, and 0 elsewhere.
func solveFor(equations [][]api.Q, row, col int) transformation {
	inverse, _ := frac.Div(frac.FromInt64(1), equations[row][col])
	pivot := vec.Scale(inverse, equations[row])
	return transformation{equation: func(i int, old []api.Q) []api.Q {
		switch {
		case i == row:
			return pivot
		case frac.Sign(old[col]) == 0:
			return old
		}
		return vec.AddScaled(frac.Neg(old[col]), pivot, old)
	}}
}

// enter brings a column into the basis, in place of one that is not wanted there, and reports whether there is one to replace.
// If there is none, the column is a combination of wanted ones.
func (t *Tableau) enter(col int, wanted []int) bool {
	if slices.Contains(t.basis, col) {
		return true
	}
	for row, basic := range t.basis {
		if !slices.Contains(wanted, basic) && t.Pivot(row, col) == api.OK {
			return true
		}
	}
	return false
}

// arrange brings the rows into the order of the given basic columns.
func (t *Tableau) arrange(basis []int) {
	equations := make([][]api.Q, len(basis))
	for i, col := range t.basis {
		equations[slices.Index(basis, col)] = t.equations[i]
	}
	t.basis, t.equations = slices.Clone(basis), equations
}
