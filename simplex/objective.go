package simplex

import (
	"pylon/api"
	"pylon/frac"
	"pylon/mat"
)

// An objective gives the coefficient of each column.
type objective struct {
	coefficient func(column int) api.Q
}

// objectives returns the objectives of a program.
func objectives(p api.LP) []objective {
	all := make([]objective, 0, len(p.Objectives))
	for i := range p.Objectives {
		all = append(all, objective{coefficient: func(column int) api.Q {
			return mat.At(p.Objectives, i, column)
		}})
	}
	return all
}

// modest returns objectives that are 0 at the columns that the given ones favour, and equal to these elsewhere.
func modest(all []objective) []objective {
	l := make([]objective, 0, len(all))
	for _, o := range all {
		l = append(l, objective{coefficient: func(column int) api.Q {
			if favours(all, column) {
				return api.Q{}
			}
			return o.coefficient(column)
		}})
	}
	return l
}

// favours reports whether the coefficients of a column are lexicographically positive.
func favours(all []objective, column int) bool {
	for _, o := range all {
		if sign := frac.Sign(o.coefficient(column)); sign != 0 {
			return sign > 0
		}
	}
	return false
}
