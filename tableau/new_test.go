package tableau_test

import (
	"math"
	"slices"
	"testing"

	"pylon/api"
	"pylon/frac"
	"pylon/solve"
	"pylon/tableau"
)

// valid returns programs of all kinds: without variables, without constraints, with neither, with short and empty vectors.
func valid() []api.LP {
	return []api.LP{
		sample(), uneven(), program(0, ";", "", ""), program(0, "; ; ; ;", "", ""), program(0, "; ;", "; ; ;", "1 -2/3 0"), program(3, "1 2; ;", "", ""), program(3, ";", "", ""), program(2, ";", "; ;", "0 0"),
		program(1, "1;", "1;", "5"), program(1, "-2;", "-3/7;", "-4"), program(3, "0 0 1; 1; 1 1 1;", "1 2 3; ;", "1 -1"), program(api.MaxCols, "1;", "2;", "3"),
	}
}

// notValid returns programs with one flaw each.
func notValid() []api.LP {
	l := []api.LP{{}}
	for _, vars := range []int{-1, math.MinInt, 1, api.MaxCols + 1, math.MaxInt} {
		l = append(l, program(vars, "3 5;", "1; 0 2;", "4 12"))
	}
	for _, x := range []struct{ objectives, rows, bounds string }{
		{"", "1; 0 2;", "4 12"}, {"", "", ""}, {"3 5; 1; 1; 1; 1;", "1; 0 2;", "4 12"}, {"3 5;", "1; 0 2;", "4"}, {"3 5;", "1; 0 2;", ""}, {"3 5;", "1; 0 2;", "4 12 0"}, {"3 5;", "", "4"},
		{"3 5 0;", "1; 0 2;", "4 12"}, {"3 5; 1 2 3;", "1; 0 2;", "4 12"}, {"3 5;", "1 2 3; 0 2;", "4 12"}, {"3 5;", "1; 0 2 0;", "4 12"},
	} {
		l = append(l, program(2, x.objectives, x.rows, x.bounds))
	}
	many := largest()
	many.Rows, many.Bounds = append(many.Rows, v("1")), append(many.Bounds, q("1"))
	return append(l, many, program(0, "3;", "", ""), program(0, ";", "0;", "1"))
}

// largest returns a program at all limits: its constraint i concerns the variables i and i+1, modulo their number.
func largest() api.LP {
	p := api.LP{Vars: api.MaxCols}
	for i := range api.MaxObjectives {
		objective := make([]api.Q, api.MaxCols)
		objective[i], objective[api.MaxCols-1-i] = q("2"), frac.FromInt64(int64(i))
		p.Objectives = append(p.Objectives, objective)
	}
	for i := range api.MaxRows {
		row := make([]api.Q, api.MaxCols)
		row[i%api.MaxCols], row[(i+1)%api.MaxCols] = q("3"), frac.FromInt64(int64(-i))
		p.Rows, p.Bounds = append(p.Rows, row), append(p.Bounds, frac.FromInt64(int64(i)-3))
	}
	return p
}

// wantError checks that a call has returned an error and no tableau.
func wantError(t *testing.T, what string, l *tableau.Tableau, e, want api.Errno) {
	t.Helper()
	if l != nil || e != want {
		t.Errorf("%s returns a tableau: %t, and error %d, want error %d", what, l != nil, e, want)
	}
}

func TestP71New(t *testing.T) {
	for _, p := range valid() {
		for _, form := range forms(p) {
			wantTableau(t, started(t, form), p, slacks(p))
		}
	}
	g := generator(711)
	for range 300 {
		p := randomP(g)
		wantTableau(t, started(t, formP(p, g.IntN(4))), p, slacks(p))
	}
}

func TestP71NotValid(t *testing.T) {
	for _, p := range notValid() {
		for _, form := range forms(p) {
			l, e := tableau.New(form)
			wantError(t, "New of "+text(p), l, e, api.ErrArg)
			for _, basis := range [][]int{nil, {0}, {0, 1}, {1, 0}, {2, 3}, {2, 3, 4}, {0, 0}, {-1, 9}} {
				l, e = tableau.FromBasis(form, basis...)
				wantError(t, "FromBasis of "+text(p), l, e, api.ErrArg)
			}
			l, e = tableau.FromBasis(form, slacks(p)...)
			wantError(t, "FromBasis of "+text(p), l, e, api.ErrArg)
		}
	}
}

func TestP71Limits(t *testing.T) {
	p := largest()
	l := started(t, p)
	wantTableau(t, l, p, slacks(p))
	// All variables are basic, the last one first, in the place of every second slack variable.
	basis := slacks(p)
	for k := range p.Vars {
		basis[2*k] = p.Vars - 1 - k
	}
	wantTableau(t, wantBasis(t, p, basis...), p, basis)
	wide := api.LP{Vars: api.MaxCols, Objectives: p.Objectives}
	wantTableau(t, started(t, wide), wide, nil)
	wantTableau(t, wantBasis(t, wide), wide, nil)
	high := api.LP{Objectives: make([][]api.Q, api.MaxObjectives), Rows: make([][]api.Q, api.MaxRows), Bounds: p.Bounds}
	wantTableau(t, started(t, high), high, slacks(high))
	reversed := slacks(high)
	slices.Reverse(reversed)
	wantTableau(t, wantBasis(t, high, reversed...), high, reversed)
	for _, wrong := range [][]int{append(slacks(p), 0), slacks(p)[1:], append(slacks(p)[1:], p.Vars+1), append(slacks(p)[1:], api.MaxCols+api.MaxRows), append(slacks(p)[1:], -1)} {
		l, e := tableau.FromBasis(p, wrong...)
		wantError(t, "FromBasis of a wrong list", l, e, api.ErrArg)
	}
}

// lists calls f with all lists of n numbers from least to most.
func lists(n, least, most int, f func(l []int)) {
	if n == 0 {
		f(nil)
		return
	}
	lists(n-1, least, most, func(l []int) {
		for k := least; k <= most; k++ {
			f(append(slices.Clone(l), k))
		}
	})
}

// isBasis reports whether the columns of the equations of p are linearly independent.
func isBasis(p api.LP, columns []int) bool {
	var square [][]api.Q
	for _, col := range columns {
		square = append(square, column(equations(p), col))
	}
	return solve.Rank(square) == len(columns)
}

// TestP71FromBasis tries all lists of small numbers, right ones in any order and wrong ones.
func TestP71FromBasis(t *testing.T) {
	count := map[api.Errno]int{}
	for _, p := range []api.LP{
		sample(), program(2, "1 1; 1;", "1 2; 2 4;", "1 -1"), program(3, "1;", "0 1 1/2; 0 1/3 0;", "5 -7"), program(1, "1; -1;", "1/2; ; -3;", "1 2 3"), program(2, ";", "; ;", "0 0"), program(0, ";", "; ;", "1 2"), program(3, "1 2;", "", ""), program(3, "1;", "0 1 1;", "2"),
	} {
		columns := p.Vars + len(p.Rows)
		for n := range len(p.Rows) + 2 {
			lists(n, -1, columns, func(basis []int) {
				distinct := slices.Compact(slices.Sorted(slices.Values(basis)))
				want := api.OK
				switch {
				case n != len(p.Rows) || slices.Contains(basis, -1) || slices.Contains(basis, columns) || len(distinct) < n:
					want = api.ErrArg
				case !isBasis(p, basis):
					want = api.ErrNone
				}
				count[want]++
				l, e := tableau.FromBasis(formP(p, n), basis...)
				if want == api.OK && e == api.OK {
					wantTableau(t, l, p, basis)
				} else if e != want || l != nil {
					t.Errorf("FromBasis returns error %d for %v and %s, want %d", e, basis, text(p), want)
				}
			})
		}
	}
	if count[api.OK] < 50 || count[api.ErrNone] < 20 || count[api.ErrArg] < 500 {
		t.Errorf("errors have been expected as often as %v says", count)
	}
	for _, col := range []int{-1, -2, math.MinInt, 5, 6, math.MaxInt} {
		for _, basis := range [][]int{{col, 3, 4}, {2, col, 4}, {2, 3, col}} {
			l, e := tableau.FromBasis(sample(), basis...)
			wantError(t, "FromBasis of a column that is not there", l, e, api.ErrArg)
		}
	}
}

// TestP71Errors checks that columns that are dependent are no reason to overlook that a list is wrong.
func TestP71Errors(t *testing.T) {
	p := program(2, "1;", "1 2; 2 4; ;", "1 2 3")
	for _, x := range []struct {
		want  api.Errno
		basis []int
	}{
		{api.ErrNone, []int{0, 1, 2}}, {api.ErrNone, []int{0, 1, 4}}, {api.ErrNone, []int{4, 1, 0}}, {api.ErrNone, []int{3, 2, 0}}, {api.ErrArg, []int{0, 1, 5}}, {api.ErrArg, []int{0, 1, -1}}, {api.ErrArg, []int{0, 1, 1}}, {api.ErrArg, []int{1, 0, 1}},
		{api.ErrArg, []int{0, 1}}, {api.ErrArg, []int{0, 1, 2, 3}}, {api.ErrArg, []int{4, 3, 2, 0}}, {api.ErrArg, nil}, {api.ErrArg, []int{4}}, {api.ErrArg, []int{5, 0, 1}}, {api.ErrArg, []int{2, 2, 2}},
	} {
		l, e := tableau.FromBasis(p, x.basis...)
		wantError(t, "FromBasis", l, e, x.want)
	}
}

// The first pivots that come to mind meet zeros here: columns have to enter in other rows than their own.
func TestP71FromBasisOrder(t *testing.T) {
	p := program(3, "1 2 3;", "0 0 5; 0 1/2; -2;", "1 2 3")
	for _, basis := range [][]int{{0, 1, 2}, {0, 2, 1}, {1, 0, 2}, {1, 2, 0}, {2, 0, 1}, {2, 1, 0}, {5, 4, 3}, {4, 5, 3}, {2, 5, 4}, {4, 0, 3}, {0, 3, 1}} {
		l := wantBasis(t, p, basis...)
		wantTableau(t, l, p, basis)
		for i, col := range basis {
			wantV(t, "a basic column", column(l.Rows(), col), []api.Q{{}, {}, {}, q("1"), {}, {}}[3-i:6-i])
		}
	}
	g := generator(712)
	for range 300 {
		p := randomP(g)
		basis := g.Perm(p.Vars + len(p.Rows))[:len(p.Rows)]
		l, e := tableau.FromBasis(formP(p, g.IntN(4)), basis...)
		if isBasis(p, basis) {
			wantTableau(t, l, p, basis)
		} else {
			wantError(t, "FromBasis", l, e, api.ErrNone)
		}
	}
}
