package tableau_test

import (
	"fmt"
	"math/rand/v2"
	"slices"
	"strings"
	"testing"

	"pylon/api"
	"pylon/frac"
	"pylon/tableau"
	"pylon/whole"
)

// q returns the rational with the given text, and v the vector with the given elements, separated by spaces.
func q(s string) api.Q {
	x, e := frac.Parse(s)
	if e != api.OK {
		panic(s + " is not a rational")
	}
	return x
}
func v(s string) []api.Q {
	var a []api.Q
	for word := range strings.FieldsSeq(s) {
		a = append(a, q(word))
	}
	return a
}

// m returns the vectors with the given elements, each of which ends with a semicolon: ";" is one vector without elements.
func m(s string) [][]api.Q {
	var l [][]api.Q
	for rest := s; rest != ""; {
		word, more, _ := strings.Cut(rest, ";")
		l, rest = append(l, v(word)), strings.TrimSpace(more)
	}
	return l
}

// program returns the program with the given number of variables, objectives, constraints and right-hand sides.
func program(vars int, objectives, rows, bounds string) api.LP {
	return api.LP{Vars: vars, Objectives: m(objectives), Rows: m(rows), Bounds: v(bounds)}
}

// sample is the program of the chapter's example.
func sample() api.LP { return program(2, "3 5;", "1; 0 2; 3 2;", "4 12 18") }

// uneven has several objectives, vectors that end before the last variable, fractions and a long number.
func uneven() api.LP {
	return program(4, "1/2 -1; ; 0 0 3; 1;", "1 1/3; ; 0 0 18446744073709551617; -2 0 0 1/5; 3;", "5 0 -7/2 1 -1/18446744073709551616")
}

// show, list and text are the inverses of v, m and program, up to spaces.
func show(a []api.Q) string {
	var words []string
	for _, x := range a {
		words = append(words, frac.Format(x))
	}
	return strings.Join(words, " ")
}
func list(l [][]api.Q) string {
	var s strings.Builder
	for _, a := range l {
		s.WriteString(show(a) + ";")
	}
	return s.String()
}
func text(p api.LP) string {
	return fmt.Sprintf("%d variables, max %s subject to %s <= %s", p.Vars, list(p.Objectives), list(p.Rows), show(p.Bounds))
}

// at returns the element of a at index i, which is 0 beyond the end.
func at(a []api.Q, i int) api.Q {
	if i < len(a) {
		return a[i]
	}
	return api.Q{}
}

// dot returns the inner product of a and x.
func dot(a, x []api.Q) api.Q {
	var total api.Q
	for i := range min(len(a), len(x)) {
		if frac.Sign(a[i]) != 0 && frac.Sign(x[i]) != 0 {
			total = frac.Add(total, frac.Mul(a[i], x[i]))
		}
	}
	return total
}

// column returns the elements of all vectors at index k.
func column(l [][]api.Q, k int) []api.Q {
	var a []api.Q
	for _, row := range l {
		a = append(a, row[k])
	}
	return a
}

// pick returns the vectors at the given indices.
func pick(l [][]api.Q, indices []int) [][]api.Q {
	var picked [][]api.Q
	for _, i := range indices {
		picked = append(picked, l[i])
	}
	return picked
}

// sum returns the sum of the vectors, which have n elements, times their weights.
func sum(weights []api.Q, l [][]api.Q, n int) []api.Q {
	total := make([]api.Q, n)
	for k := range total {
		total[k] = dot(weights, column(l, k))
	}
	return total
}

// equations returns the left sides of the equations of a program.
func equations(p api.LP) [][]api.Q {
	var l [][]api.Q
	for i, row := range p.Rows {
		equation := make([]api.Q, p.Vars+len(p.Rows))
		copy(equation, row)
		equation[p.Vars+i] = q("1")
		l = append(l, equation)
	}
	return l
}

// values returns the value vectors of all columns of a program.
func values(p api.LP) [][]api.Q {
	var l [][]api.Q
	for col := range p.Vars + len(p.Rows) {
		value := make([]api.Q, len(p.Objectives)+p.Vars)
		if col < p.Vars {
			for i, objective := range p.Objectives {
				value[i] = at(objective, col)
			}
			value[len(p.Objectives)+col] = q("-1")
		}
		l = append(l, value)
	}
	return l
}

// isNegative reports whether a is lexicographically negative.
func isNegative(a []api.Q) bool {
	for _, x := range a {
		if frac.Sign(x) != 0 {
			return frac.Sign(x) < 0
		}
	}
	return false
}

// wantV checks the elements of a result, their number, and that all of them are canonical.
func wantV(t *testing.T, what string, got, want []api.Q) {
	t.Helper()
	if show(got) != show(want) {
		t.Errorf("%s = (%s), want (%s)", what, show(got), show(want))
	}
	for _, x := range got {
		if !frac.IsCanonical(x) {
			t.Errorf("%s has the element %v, which is not canonical", what, x)
		}
	}
}

// wantM does so for a list of vectors.
func wantM(t *testing.T, what string, got, want [][]api.Q) {
	t.Helper()
	if len(got) != len(want) {
		t.Fatalf("%s = (%s), want (%s)", what, list(got), list(want))
	}
	for i, a := range got {
		wantV(t, fmt.Sprintf("%s, vector %d,", what, i), a, want[i])
	}
}

// wantTableau checks all that a tableau tells of itself against the definitions, for a program and a basis.
func wantTableau(t *testing.T, l *tableau.Tableau, p api.LP, basis []int) {
	t.Helper()
	what := fmt.Sprintf("in the tableau for %v of %s: ", basis, text(p))
	if got := l.Basis(); l == nil || !slices.Equal(got, basis) {
		t.Fatalf("%sBasis = %v", what, got)
	}
	left, columns := equations(p), p.Vars+len(p.Rows)
	rows, rhs := l.Rows(), l.RHS()
	if len(rows) != len(left) || len(rhs) != len(left) {
		t.Fatalf("%s%d rows and %d elements on the right-hand side", what, len(rows), len(rhs))
	}
	for i, row := range rows {
		wantV(t, what+"a row at the basic columns", column(pick(rows, []int{i}), basis[i]), v("1"))
		if len(row) != columns {
			t.Fatalf("%sa row has %d elements", what, len(row))
		}
	}
	for i, equation := range left {
		// The basic columns times the rows are the equations; as these contain the unit matrix, no other rows fulfil this.
		weights := make([]api.Q, len(basis))
		for k, col := range basis {
			weights[k] = equation[col]
		}
		wantV(t, what+"the basic columns times the rows", sum(weights, rows, columns), equation)
		wantV(t, what+"the basic columns times the right-hand side", []api.Q{dot(weights, rhs)}, []api.Q{q(frac.Format(p.Bounds[i]))})
	}
	for _, a := range append(slices.Clone(rows), rhs) {
		wantV(t, what+"a row", a, a)
	}
	wantCosts(t, what, l, p)
}

// wantCosts checks what a tableau tells of reduced costs, values and points, given its rows.
func wantCosts(t *testing.T, what string, l *tableau.Tableau, p api.LP) {
	t.Helper()
	all, basis, rows, rhs := values(p), l.Basis(), l.Rows(), l.RHS()
	size := len(p.Objectives) + p.Vars
	basic := pick(all, basis)
	var costs [][]api.Q
	optimal, feasible, x := true, true, make([]api.Q, p.Vars)
	for col := range all {
		cost := sum(column(rows, col), basic, size)
		for k := range cost {
			cost[k] = frac.Sub(cost[k], all[col][k])
		}
		wantV(t, fmt.Sprintf("%sReducedCost(%d)", what, col), l.ReducedCost(col), cost)
		costs, optimal = append(costs, cost), optimal && !isNegative(cost)
	}
	for i, amount := range rhs {
		feasible = feasible && frac.Sign(amount) >= 0
		if basis[i] < p.Vars {
			x[basis[i]] = amount
		}
	}
	wantM(t, what+"ReducedCosts", l.ReducedCosts(), costs)
	wantV(t, what+"Value", l.Value(), sum(rhs, basic, size))
	wantV(t, what+"Solution", l.Solution(), x)
	if l.Feasible() != feasible || l.Optimal() != optimal {
		t.Errorf("%sFeasible = %t and Optimal = %t, want %t and %t", what, l.Feasible(), l.Optimal(), feasible, optimal)
	}
}

// started returns the tableau of New, and wantBasis that of FromBasis.
func started(t *testing.T, p api.LP) *tableau.Tableau {
	t.Helper()
	l, e := tableau.New(p)
	if l == nil || e != api.OK {
		t.Fatalf("New returns error %d for %s", e, text(p))
	}
	return l
}
func wantBasis(t *testing.T, p api.LP, basis ...int) *tableau.Tableau {
	t.Helper()
	l, e := tableau.FromBasis(p, basis...)
	if l == nil || e != api.OK {
		t.Fatalf("FromBasis returns error %d for %v and %s", e, basis, text(p))
	}
	return l
}

// slacks returns the columns of the slack variables of p.
func slacks(p api.LP) []int {
	var l []int
	for i := range p.Rows {
		l = append(l, p.Vars+i)
	}
	return l
}

// A place is a row and a column.
type place struct{ row, col int }

// places returns the places at which a tableau allows a pivot.
func places(l *tableau.Tableau) []place {
	var free []place
	basis := l.Basis()
	for i, row := range l.Rows() {
		for col, x := range row {
			if frac.Sign(x) != 0 && !slices.Contains(basis, col) {
				free = append(free, place{i, col})
			}
		}
	}
	return free
}

// wander makes up to n pivots at random places.
func wander(t *testing.T, g *rand.Rand, l *tableau.Tableau, n int) {
	t.Helper()
	for range n {
		free := places(l)
		if len(free) == 0 {
			return
		}
		next := free[g.IntN(len(free))]
		if e := l.Pivot(next.row, next.col); e != api.OK {
			t.Fatalf("Pivot(%d, %d) returns error %d", next.row, next.col, e)
		}
	}
}

// disguise returns x in a form that is not canonical: with its parts multiplied by a factor, unless that is 0, and padded.
func disguise(x api.Q, factor int64) api.Q {
	if factor == 0 {
		return api.Q{Num: padded(x.Num), Den: padded(x.Den)}
	}
	by, den := whole.FromInt64(factor), x.Den
	if whole.Sign(den) == 0 {
		den = whole.FromInt64(1)
	}
	return api.Q{Num: padded(whole.Mul(x.Num, by)), Den: padded(whole.Mul(den, by))}
}

// padded returns a with a zero word at its end and foreign words beyond it; 0 becomes negative.
func padded(a api.Z) api.Z {
	words := append(slices.Clone(a.W), 0, 7, 9)
	return api.Z{Neg: a.Neg || len(a.W) == 0, W: words[:len(a.W)+1]}
}

// disguises are the factors from which formV chooses; a manner says with which of them it begins.
var disguises = []int64{-1, 30, 0, -6}

// formV returns a with elements that are not canonical, and with foreign elements in the memory beyond its end.
func formV(a []api.Q, manner int) []api.Q {
	b := append(slices.Clone(a), v("-3 5/7")...)[:len(a)]
	for i, x := range a {
		b[i] = disguise(x, disguises[(manner+i)%len(disguises)])
	}
	return b
}

// formP does so with all vectors of a program, and puts foreign vectors into the memory beyond the ends of their lists.
func formP(p api.LP, manner int) api.LP {
	form := func(l [][]api.Q) [][]api.Q {
		b := append(slices.Clone(l), m("8; 9;")...)[:len(l)]
		for i, a := range l {
			b[i] = formV(a, manner+i)
		}
		return b
	}
	return api.LP{Vars: p.Vars, Objectives: form(p.Objectives), Rows: form(p.Rows), Bounds: formV(p.Bounds, manner+1)}
}

// forms returns a program itself and copies with elements that are not canonical.
func forms(p api.LP) []api.LP {
	l := []api.LP{p}
	for manner := range disguises {
		l = append(l, formP(p, manner))
	}
	return l
}

// generator makes the same numbers in every run.
func generator(seed uint64) *rand.Rand { return rand.New(rand.NewPCG(7, seed)) }

// randomQ returns 0, a small integer, a fraction, or rarely a number of several words.
func randomQ(g *rand.Rand) api.Q {
	switch kind := g.IntN(30); {
	case kind < 9:
		return api.Q{}
	case kind < 23:
		return frac.FromInt64(g.Int64N(7) - 3)
	case kind < 29:
		x, _ := frac.New(g.Int64N(31)-15, 1+g.Int64N(9))
		return x
	}
	x, _ := frac.Div(frac.FromInteger(api.Z{W: []uint32{g.Uint32(), g.Uint32(), 1}}), frac.FromInt64(-1-g.Int64N(1<<40)))
	return x
}

func randomV(g *rand.Rand, n int) []api.Q {
	var a []api.Q
	for range n {
		a = append(a, randomQ(g))
	}
	return a
}

// randomP returns a valid program with vectors of all lengths.
func randomP(g *rand.Rand) api.LP {
	p := api.LP{Vars: g.IntN(5)}
	for range 1 + g.IntN(api.MaxObjectives) {
		p.Objectives = append(p.Objectives, randomV(g, g.IntN(p.Vars+1)))
	}
	for range g.IntN(5) {
		p.Rows, p.Bounds = append(p.Rows, randomV(g, g.IntN(p.Vars+1))), append(p.Bounds, randomQ(g))
	}
	return p
}
