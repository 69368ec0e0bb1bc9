package tableau_test

import (
	"math"
	"slices"
	"testing"

	"pylon/api"
	"pylon/tableau"
)

// A state is all that a tableau tells of itself, as text.
type state struct {
	basis                             []int
	rows, rhs, costs, value, solution string
	feasible, optimal                 bool
}

func stateOf(l *tableau.Tableau) state {
	return state{l.Basis(), list(l.Rows()), show(l.RHS()), list(l.ReducedCosts()), show(l.Value()), show(l.Solution()), l.Feasible(), l.Optimal()}
}

// wantState compares a state with one whose texts may have more spaces.
func wantState(t *testing.T, what string, got, want state) {
	t.Helper()
	if !slices.Equal(got.basis, want.basis) || got.feasible != want.feasible || got.optimal != want.optimal {
		t.Errorf("%s: Basis = %v, Feasible = %t, Optimal = %t, want %v, %t, %t", what, got.basis, got.feasible, got.optimal, want.basis, want.feasible, want.optimal)
	}
	for _, x := range []struct{ name, got, want string }{
		{"Rows", got.rows, list(m(want.rows))}, {"RHS", got.rhs, show(v(want.rhs))}, {"ReducedCosts", got.costs, list(m(want.costs))}, {"Value", got.value, show(v(want.value))}, {"Solution", got.solution, show(v(want.solution))},
	} {
		if x.got != x.want {
			t.Errorf("%s: %s = (%s), want (%s)", what, x.name, x.got, x.want)
		}
	}
}

// TestP72Example follows the example of the chapter.
func TestP72Example(t *testing.T) {
	for _, p := range forms(sample()) {
		l := started(t, p)
		wantState(t, "New", stateOf(l), state{[]int{2, 3, 4}, "1 0 1 0 0; 0 2 0 1 0; 3 2 0 0 1;", "4 12 18", "-3 1 0; -5 0 1; 0 0 0; 0 0 0; 0 0 0;", "0 0 0", "0 0", true, false})
		wantV(t, "ReducedCost(0)", l.ReducedCost(0), v("-3 1 0"))
		if e := l.Pivot(1, 1); e != api.OK {
			t.Errorf("Pivot(1, 1) returns error %d", e)
		}
		wantState(t, "Pivot(1, 1)", stateOf(l), state{[]int{2, 1, 4}, "1 0 1 0 0; 0 1 0 1/2 0; 3 0 0 -1 1;", "4 6 6", "-3 1 0; 0 0 0; 0 0 0; 5/2 0 -1/2; 0 0 0;", "30 0 -6", "0 6", true, false})
		if e := l.Pivot(2, 0); e != api.OK {
			t.Errorf("Pivot(2, 0) returns error %d", e)
		}
		wantState(t, "Pivot(2, 0)", stateOf(l), state{[]int{2, 1, 0}, "0 0 1 1/3 -1/3; 0 1 0 1/2 0; 1 0 0 -1/3 1/3;", "2 6 2", "0 0 0; 0 0 0; 0 0 0; 3/2 1/3 -1/2; 1 -1/3 0;", "36 -2 -6", "2 6", true, true})
		same := wantBasis(t, p, 2, 1, 0)
		wantState(t, "FromBasis", stateOf(same), stateOf(l))
		far := wantBasis(t, p, 1, 4, 2)
		wantState(t, "FromBasis", stateOf(far), state{[]int{1, 4, 2}, "0 1 0 1/2 0; 3 0 0 -1 1; 1 0 1 0 0;", "6 6 4", "-3 1 0; 0 0 0; 0 0 0; 5/2 0 -1/2; 0 0 0;", "30 0 -6", "0 6", true, false})
		beyond := wantBasis(t, p, 0, 1, 4)
		wantState(t, "FromBasis", stateOf(beyond), state{[]int{0, 1, 4}, "1 0 1 0 0; 0 1 0 1/2 0; 0 0 -3 -1 1;", "4 6 -6", "0 0 0; 0 0 0; 3 -1 0; 5/2 0 -1/2; 0 0 0;", "42 -4 -6", "4 6", false, true})
	}
}

func TestP72States(t *testing.T) {
	for _, x := range []struct {
		p     api.LP
		basis []int
		want  state
	}{
		// Several objectives, and vectors that end before the last variable.
		{program(3, "2; 0 -3; ; 0 0 1/2;", "1 1; ; -2;", "1 0 -1"), []int{3, 4, 5},
			state{nil, "1 1 0 1 0 0; 0 0 0 0 1 0; -2 0 0 0 0 1;", "1 0 -1", "-2 0 0 0 1 0 0; 0 3 0 0 0 1 0; 0 0 0 -1/2 0 0 1; 0 0 0 0 0 0 0; 0 0 0 0 0 0 0; 0 0 0 0 0 0 0;", "0 0 0 0 0 0 0", "0 0 0", false, false}},
		{program(3, "2; 0 -3; ; 0 0 1/2;", "1 1; ; -2;", "1 0 -1"), []int{3, 4, 0},
			state{nil, "0 1 0 1 0 1/2; 0 0 0 0 1 0; 1 0 0 0 0 -1/2;", "1/2 0 1/2", "0 0 0 0 0 0 0; 0 3 0 0 0 1 0; 0 0 0 -1/2 0 0 1; 0 0 0 0 0 0 0; 0 0 0 0 0 0 0; -1 0 0 0 1/2 0 0;", "1 0 0 0 -1/2 0 0", "1/2 0 0", true, false}},
		{program(3, "2; 0 -3; ; 0 0 1/2;", "1 1; ; -2;", "1 0 -1"), []int{0, 4, 5},
			state{nil, "1 1 0 1 0 0; 0 0 0 0 1 0; 0 2 0 2 0 1;", "1 0 1", "0 0 0 0 0 0 0; 2 3 0 0 -1 1 0; 0 0 0 -1/2 0 0 1; 2 0 0 0 -1 0 0; 0 0 0 0 0 0 0; 0 0 0 0 0 0 0;", "2 0 0 0 -1 0 0", "1 0 0", true, false}},
		// The first objective ties, and the second one decides; then the variables do.
		{program(2, "1 1; 0 1;", "1 1;", "3"), []int{0}, state{nil, "1 1 1;", "3", "0 0 0 0; 0 -1 -1 1; 1 0 -1 0;", "3 0 -3 0", "3 0", true, false}},
		{program(2, "1 1; 0 1;", "1 1;", "3"), []int{1}, state{nil, "1 1 1;", "3", "0 1 1 -1; 0 0 0 0; 1 1 0 -1;", "3 3 0 -3", "0 3", true, true}},
		{program(2, "1 1;", "1 1;", "3"), []int{0}, state{nil, "1 1 1;", "3", "0 0 0; 0 -1 1; 1 -1 0;", "3 -3 0", "3 0", true, false}},
		{program(2, "1 1;", "1 1;", "3"), []int{1}, state{nil, "1 1 1;", "3", "0 1 -1; 0 0 0; 1 0 -1;", "3 0 -3", "0 3", true, true}},
		// Optimal without being feasible, and neither.
		{program(1, "-1;", "-1;", "-2"), []int{1}, state{nil, "-1 1;", "-2", "1 1; 0 0;", "0 0", "0", false, true}},
		{program(1, "-1;", "-1;", "-2"), []int{0}, state{nil, "1 -1;", "2", "0 0; 1 1;", "-2 -2", "2", true, true}},
		{program(1, "1;", "-1; 1;", "-2 1"), []int{0, 2}, state{nil, "1 -1 0; 0 1 1;", "2 -1", "0 0; -1 1; 0 0;", "2 -2", "2", false, false}},
		// A right-hand side 0 is feasible, and a reduced cost 0 is optimal.
		{program(2, ";", "1 -1;", "0"), []int{2}, state{nil, "1 -1 1;", "0", "0 1 0; 0 0 1; 0 0 0;", "0 0 0", "0 0", true, true}},
		// Without variables, constraints or both.
		{program(0, "; ;", "; ;", "1 -2"), []int{1, 0}, state{nil, "0 1; 1 0;", "-2 1", "0 0; 0 0;", "0 0", "", false, true}},
		{program(0, "; ;", "; ;", "1 0"), []int{0, 1}, state{nil, "1 0; 0 1;", "1 0", "0 0; 0 0;", "0 0", "", true, true}},
		{program(2, "-1; 0 3;", "", ""), nil, state{nil, "", "", "1 0 1 0; 0 -3 0 1;", "0 0 0 0", "0 0", true, false}},
		{program(2, "0 -1;", "", ""), nil, state{nil, "", "", "0 1 0; 1 0 1;", "0 0 0", "0 0", true, true}},
		{program(0, "; ; ;", "", ""), nil, state{nil, "", "", "", "0 0 0", "", true, true}},
		// Fractions and long numbers.
		{program(2, "1/2 -1/3;", "2/3 18446744073709551616; -1/7;", "5 1/18446744073709551616"), []int{1, 0},
			state{nil, "0 1 1/18446744073709551616 7/27670116110564327424; 1 0 0 -7;", "138350580552821637127/510423550381407695195061911147652317184 -7/18446744073709551616", "0 0 0; 0 0 0; -1/55340232221128654848 0 -1/18446744073709551616; -290536219160925437959/83010348331692982272 7 -7/27670116110564327424;",
				"-428886799713747075079/1531270651144223085585185733442956951552 7/18446744073709551616 -138350580552821637127/510423550381407695195061911147652317184", "-7/18446744073709551616 138350580552821637127/510423550381407695195061911147652317184", false, false}},
	} {
		x.want.basis = x.basis
		for _, p := range forms(x.p) {
			wantState(t, text(x.p), stateOf(wantBasis(t, p, x.basis...)), x.want)
		}
		wantTableau(t, wantBasis(t, x.p, x.basis...), x.p, x.basis)
	}
}

func TestP72Pivots(t *testing.T) {
	g, feasible, optimal := generator(721), 0, 0
	for range 300 {
		p := randomP(g)
		l := started(t, formP(p, g.IntN(4)))
		for range 4 {
			basis := l.Basis()
			wantTableau(t, l, p, basis)
			copied := l.Clone()
			wantTableau(t, copied, p, basis)
			if l.Feasible() {
				feasible++
			}
			if l.Optimal() {
				optimal++
			}
			wander(t, g, l, 1)
		}
	}
	if feasible < 200 || feasible > 1000 || optimal < 100 || optimal > 1000 {
		t.Errorf("of 1200 bases %d are feasible and %d are optimal", feasible, optimal)
	}
}

func TestP72ReducedCostOfNoColumn(t *testing.T) {
	for _, p := range valid() {
		l := started(t, p)
		columns := p.Vars + len(p.Rows)
		for _, col := range []int{-1, -2, math.MinInt, columns, columns + 1, 2*columns + 1, math.MaxInt} {
			if cost := l.ReducedCost(col); cost != nil {
				t.Errorf("ReducedCost(%d) = (%s) for %s", col, show(cost), text(p))
			}
		}
	}
}

func TestP72Nil(t *testing.T) {
	for _, l := range []*tableau.Tableau{nil, new(tableau.Tableau)} {
		wantState(t, "a tableau that is missing", stateOf(l), state{})
		if l.Basis() != nil || l.Rows() != nil || l.RHS() != nil || l.ReducedCosts() != nil || l.Value() != nil || l.Solution() != nil || l.Clone() != nil {
			t.Error("a tableau that is missing returns something")
		}
		for col := -1; col <= 1; col++ {
			if l.ReducedCost(col) != nil {
				t.Errorf("a tableau that is missing returns a reduced cost for column %d", col)
			}
		}
	}
}

// A clone and its original go their own ways.
func TestP72Clone(t *testing.T) {
	g := generator(722)
	for range 200 {
		p := randomP(g)
		l := started(t, p)
		wander(t, g, l, g.IntN(3))
		before := stateOf(l)
		first := l.Clone()
		second := first.Clone()
		wander(t, g, first, 2)
		wantState(t, "a tableau whose clone has been pivoted", stateOf(l), before)
		wantTableau(t, first, p, first.Basis())
		after := stateOf(first)
		wander(t, g, l, 2)
		wantTableau(t, l, p, l.Basis())
		wantState(t, "a clone whose original has been pivoted", stateOf(first), after)
		wantState(t, "a clone of a clone", stateOf(second), before)
	}
}
