package simplex

import (
	"slices"

	"pylon/api"
	"pylon/frac"
	"pylon/vec"
)

// optimal returns the result when the basis is feasible and optimal.
func (s *search) optimal() api.Result {
	return api.Result{Kind: api.Optimal, X: s.point(), Y: s.prices(), Pivots: s.pivots}
}

// infeasible returns the result when the last move found a row that cannot be satisfied: its right-hand side alone is negative.
func (s *search) infeasible() api.Result {
	farkas := make([]api.Q, 0, len(s.rows))
	for i := range s.rows {
		farkas = append(farkas, s.at(s.last.row, s.vars+i))
	}
	return api.Result{Kind: api.Infeasible, Farkas: farkas, Pivots: s.pivots}
}

// unbounded returns the result when the last move found a column that can grow forever: the basic columns do not shrink with it.
func (s *search) unbounded() api.Result {
	ray := vec.Unit(s.vars, s.free[s.last.place])
	for row, column := range s.basic {
		if column < s.vars {
			ray[column] = frac.Neg(s.rows[row][s.last.place])
		}
	}
	return api.Result{Kind: api.Unbounded, X: s.point(), Ray: ray, Pivots: s.pivots}
}

// point returns the basic solution.
func (s *search) point() []api.Q {
	x := make([]api.Q, s.vars)
	for row, column := range s.basic {
		if column < s.vars {
			x[column] = s.limit(row)
		}
	}
	return x
}

// prices returns the price vectors: the reduced costs of the slack variables.
func (s *search) prices() [][]api.Q {
	all := make([][]api.Q, 0, len(s.rows))
	for i := range s.rows {
		price := make([]api.Q, s.costLength())
		if place := slices.Index(s.free, s.vars+i); place >= 0 {
			for k := range price {
				price[k] = s.cost(k, place)
			}
		}
		all = append(all, price)
	}
	return all
}
