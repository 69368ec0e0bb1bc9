package tableau

import (
	"iter"

	"pylon/api"
	"pylon/frac"
	"pylon/mat"
	"pylon/vec"
)

// ReducedCosts returns the reduced costs of all columns.
func (t *Tableau) ReducedCosts() [][]api.Q {
	if t.isMissing() {
		return nil
	}
	costs := make([][]api.Q, 0, len(t.values))
	for cost := range t.costs() {
		costs = append(costs, cost)
	}
	return costs
}

// ReducedCost returns the reduced cost of a column, or nil if there is no such column.
func (t *Tableau) ReducedCost(col int) []api.Q {
	if t.isMissing() || !t.has(col) {
		return nil
	}
	return t.cost(col, t.basicValues())
}

// Value returns the value of the basis.
func (t *Tableau) Value() []api.Q {
	if t.isMissing() {
		return nil
	}
	// Without rows the sum would have no elements.
	return vec.Resize(mat.VecMul(t.RHS(), t.basicValues()), t.objectives+t.vars)
}

// Optimal reports whether the basis is optimal.
func (t *Tableau) Optimal() bool {
	if t.isMissing() {
		return false
	}
	for cost := range t.costs() {
		if vec.Sign(cost) < 0 {
			return false
		}
	}
	return true
}

// costs visits the columns and yields their reduced costs.
func (t *Tableau) costs() iter.Seq[[]api.Q] {
	return func(yield func(cost []api.Q) bool) {
		basic := t.basicValues()
		for col := range t.values {
			if !yield(t.cost(col, basic)) {
				return
			}
		}
	}
}

// cost returns the reduced cost of a column; basic are the value vectors of the basic columns.
func (t *Tableau) cost(col int, basic [][]api.Q) []api.Q {
	return vec.Sub(mat.VecMul(t.column(col), basic), t.values[col])
}

// basicValues returns the value vectors of the basic columns, row by row.
func (t *Tableau) basicValues() [][]api.Q {
	values := make([][]api.Q, 0, len(t.basis))
	for _, col := range t.basis {
		values = append(values, t.values[col])
	}
	return values
}

// valueVectors returns the value vectors of all columns of a valid program.
func valueVectors(p api.LP) [][]api.Q {
	objectives := len(p.Objectives)
	coefficients := mat.Transpose(mat.Resize(p.Objectives, objectives, p.Vars))
	variables := mat.Concat(coefficients, mat.Scale(frac.FromInt64(-1), mat.Identity(p.Vars)))
	return mat.Resize(variables, p.Vars+len(p.Rows), objectives+p.Vars)
}
