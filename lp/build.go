package lp

import (
	"slices"

	"pylon/api"
	"pylon/frac"
	"pylon/mat"
	"pylon/vec"
)

// Dual returns the dual of p with respect to its first objective. It returns ErrArg if p is not valid or too large for a valid dual.
func Dual(p api.LP) (api.LP, api.Errno) {
	if !Valid(p) || len(p.Rows) > api.MaxCols || p.Vars > api.MaxRows {
		return api.LP{}, api.ErrArg
	}
	minus := frac.FromInt64(-1)
	// The last variables may appear in no constraint, and then the transpose has no rows for them.
	columns := mat.Resize(mat.Transpose(p.Rows), p.Vars, len(p.Rows))
	return api.LP{
		Vars:       len(p.Rows),
		Objectives: [][]api.Q{vec.Scale(minus, p.Bounds)},
		Rows:       mat.Scale(minus, columns),
		Bounds:     vec.Scale(minus, vec.Resize(p.Objectives[0], p.Vars)),
	}, api.OK
}

// SingleObjective returns p with the objective at index k only. It returns ErrArg if p is not valid or has no such objective.
func SingleObjective(p api.LP, k int) (api.LP, api.Errno) {
	if !Valid(p) || k < 0 || k >= len(p.Objectives) {
		return api.LP{}, api.ErrArg
	}
	p.Objectives = p.Objectives[k : k+1]
	return canonical(p), api.OK
}

// AddConstraint returns p with the constraint row <= most after all others. It returns ErrArg if p or that program is not valid.
func AddConstraint(p api.LP, row []api.Q, most api.Q) (api.LP, api.Errno) {
	return extend(p, [][]api.Q{row}, []api.Q{most})
}

// AddEquation returns p with the constraints row <= is and -row <= -is after all others. It returns ErrArg if p or that program is not valid.
func AddEquation(p api.LP, row []api.Q, is api.Q) (api.LP, api.Errno) {
	reverse := vec.Scale(frac.FromInt64(-1), row)
	return extend(p, [][]api.Q{row, reverse}, []api.Q{is, frac.Neg(is)})
}

// extend returns p with further constraints and as many right-hand sides, or ErrArg if p or that program is not valid.
func extend(p api.LP, rows [][]api.Q, bounds []api.Q) (api.LP, api.Errno) {
	p.Rows = slices.Concat(p.Rows, rows)
	p.Bounds = slices.Concat(p.Bounds, bounds)
	// What makes p invalid makes the longer program invalid, too.
	if !Valid(p) {
		return api.LP{}, api.ErrArg
	}
	return canonical(p), api.OK
}

// canonical returns p, which is valid, with its rationals in canonical form and in new memory.
func canonical(p api.LP) api.LP {
	one := frac.FromInt64(1)
	return api.LP{
		Vars:       p.Vars,
		Objectives: mat.Scale(one, p.Objectives),
		Rows:       mat.Scale(one, p.Rows),
		Bounds:     vec.Scale(one, p.Bounds),
	}
}
