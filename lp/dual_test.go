package lp_test

import (
	"math"
	"testing"

	"pylon/api"
	"pylon/frac"
	"pylon/lp"
)

// wantDual checks Dual for all forms of a program: the numbers, and how many of them each vector has.
func wantDual(t *testing.T, p, want api.LP) {
	t.Helper()
	for _, form := range forms(p) {
		d, e := lp.Dual(form)
		what := "the dual of " + text(p)
		wantP(t, what, d, want, e)
		if list(d.Objectives) != list(want.Objectives) || list(d.Rows) != list(want.Rows) {
			t.Errorf("%s = (%s), want (%s) with exactly these elements", what, text(d), text(want))
		}
		if !lp.Valid(d) {
			t.Errorf("%s is not valid", what)
		}
	}
}

func TestP62Dual(t *testing.T) {
	for _, x := range []struct{ p, dual api.LP }{
		{sample(), program(3, "-4 -12 -18;", "-1 0 -3; 0 -2 -2;", "-3 -5")},
		{program(1, "1;", "1;", "5"), program(1, "-5;", "-1;", "-1")}, {program(1, "-2;", "-3;", "-4"), program(1, "4;", "3;", "2")}, {program(1, "0;", "0;", "0"), program(1, "0;", "0;", "0")},
		{program(2, "1/2 -1/3; 7 7; 8 8; 9 9;", "1/5 0; -1/7 18446744073709551616;", "1/18446744073709551616 -3/2"), program(2, "-1/18446744073709551616 3/2;", "-1/5 1/7; 0 -18446744073709551616;", "-1/2 1/3")},
		// Vectors that end before the last variable, and variables that appear nowhere.
		{program(3, "1;", "1 2; ; 3;", "4 5 6"), program(3, "-4 -5 -6;", "-1 0 -3; -2 0 0; 0 0 0;", "-1 0 0")}, {program(3, ";", ";", "2"), program(1, "-2;", "0; 0; 0;", "0 0 0")}, {program(2, "0 4; 1;", "0 1; 1;", "1 2"), program(2, "-1 -2;", "0 -1; -1 0;", "0 -4")},
		{program(2, "; 1 2;", "1 2;", "3"), program(1, "-3;", "-1; -2;", "0 0")}, {program(4, "1 2 3 4;", "0 0 0 5; 6;", "7 8"), program(2, "-7 -8;", "0 -6; 0 0; 0 0; -5 0;", "-1 -2 -3 -4")},
		// No constraints, no variables, and neither.
		{program(3, "1 2;", "", ""), program(0, ";", "; ; ;", "-1 -2 0")}, {program(0, "; ;", "; ; ;", "1 -2 0"), program(3, "-1 2 0;", "", "")}, {program(0, ";", "", ""), program(0, ";", "", "")},
	} {
		wantDual(t, x.p, x.dual)
	}
}

// sized returns a program of the given size with elements that tell where they stand, and its dual.
func sized(vars, rows int) (p, dual api.LP) {
	p, dual = api.LP{Vars: vars, Objectives: make([][]api.Q, 1)}, api.LP{Vars: rows, Objectives: make([][]api.Q, 1), Rows: make([][]api.Q, vars)}
	number := func(n int) api.Q { return frac.FromInt64(int64(n)) }
	for k := range vars {
		p.Objectives[0], dual.Bounds = append(p.Objectives[0], number(k-3)), append(dual.Bounds, number(3-k))
	}
	for i := range rows {
		p.Rows = append(p.Rows, nil)
		p.Bounds, dual.Objectives[0] = append(p.Bounds, number(5*i-9)), append(dual.Objectives[0], number(9-5*i))
		for k := range vars {
			p.Rows[i], dual.Rows[k] = append(p.Rows[i], number(i-10*k)), append(dual.Rows[k], number(10*k-i))
		}
	}
	return p, dual
}

func TestP62DualSizes(t *testing.T) {
	for vars := range api.MaxCols + 1 {
		if vars > 3 && vars < api.MaxCols-1 {
			continue
		}
		for _, rows := range []int{0, 1, 2, api.MaxCols - 1, api.MaxCols} {
			p, dual := sized(vars, rows)
			wantDual(t, p, dual)
		}
		// A dual may not have more variables than any other program.
		for _, rows := range []int{api.MaxCols + 1, api.MaxCols + 2, api.MaxRows - 1, api.MaxRows, api.MaxRows + 1} {
			p, _ := sized(vars, rows)
			d, e := lp.Dual(p)
			wantArg(t, "the dual of a program with too many constraints", d, e)
		}
	}
	for _, vars := range []int{api.MaxCols + 1, api.MaxRows, api.MaxRows + 1, 2 * api.MaxRows} {
		for _, rows := range []int{0, 1, api.MaxCols} {
			p, _ := sized(vars, rows)
			d, e := lp.Dual(p)
			wantArg(t, "the dual of a program with too many variables", d, e)
		}
	}
}

func TestP62NotValid(t *testing.T) {
	for _, p := range notValid() {
		for _, form := range forms(p) {
			d, e := lp.Dual(form)
			wantArg(t, "the dual of "+text(p), d, e)
			for k := -1; k <= len(p.Objectives); k++ {
				s, e := lp.SingleObjective(form, k)
				wantArg(t, "SingleObjective of "+text(p), s, e)
			}
		}
	}
}

func TestP62SingleObjective(t *testing.T) {
	for _, p := range []api.LP{
		sample(), program(2, "3 5;", "1; 0 2; 3 2;", "4 12 18"), program(3, "1 2 3; ; 0 4; -1/2 0 1/3;", "1/3 1/7; ; 0 0 18446744073709551616;", "-1 0 1/2"), program(2, "1; 2; 3; 4;", "", ""), program(0, "; ; ;", "; ;", "1 -1"), largest(),
	} {
		for _, form := range forms(p) {
			for k, objective := range p.Objectives {
				got, e := lp.SingleObjective(form, k)
				wantP(t, "SingleObjective of "+text(p), got, api.LP{Vars: p.Vars, Objectives: [][]api.Q{objective}, Rows: p.Rows, Bounds: p.Bounds}, e)
			}
			for _, k := range []int{-1, -2, math.MinInt, len(p.Objectives), len(p.Objectives) + 1, api.MaxObjectives, math.MaxInt} {
				got, e := lp.SingleObjective(form, k)
				wantArg(t, "SingleObjective of "+text(p), got, e)
			}
		}
	}
}

func TestP62Random(t *testing.T) {
	g := generator(62)
	for range 600 {
		p := randomP(g)
		dual := api.LP{Vars: len(p.Rows), Objectives: make([][]api.Q, 1), Rows: make([][]api.Q, p.Vars)}
		for i, row := range p.Rows {
			dual.Objectives[0] = append(dual.Objectives[0], frac.Neg(p.Bounds[i]))
			for k := range p.Vars {
				dual.Rows[k] = append(dual.Rows[k], frac.Neg(at(row, k)))
			}
		}
		for k := range p.Vars {
			dual.Bounds = append(dual.Bounds, frac.Neg(at(p.Objectives[0], k)))
		}
		wantDual(t, p, dual)
		k := g.IntN(len(p.Objectives))
		got, e := lp.SingleObjective(formP(p, g.IntN(4)), k)
		p.Objectives = p.Objectives[k : k+1]
		wantP(t, "SingleObjective", got, p, e)
	}
}
