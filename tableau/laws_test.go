package tableau_test

import (
	"math/rand/v2"
	"slices"
	"testing"

	"pylon/api"
	"pylon/frac"
	"pylon/lp"
	"pylon/tableau"
)

// TestP73Assignments checks the rows and costs of tableaus with assignments that satisfy the equations.
func TestP73Assignments(t *testing.T) {
	g := generator(731)
	for range 400 {
		p := randomP(g)
		all, size := values(p), len(p.Objectives)+p.Vars
		assignment := randomV(g, p.Vars)
		for i, row := range p.Rows {
			assignment = append(assignment, frac.Sub(p.Bounds[i], dot(row, assignment[:p.Vars])))
		}
		l := started(t, formP(p, g.IntN(4)))
		for range 4 {
			var left []api.Q
			for _, row := range l.Rows() {
				left = append(left, dot(row, assignment))
			}
			wantV(t, "what the rows say of an assignment", left, l.RHS())
			loss, total := sum(assignment, l.ReducedCosts(), size), l.Value()
			for k := range total {
				total[k] = frac.Sub(total[k], loss[k])
			}
			wantV(t, "the value of the basis without the reduced costs", total, sum(assignment, all, size))
			wander(t, g, l, 1)
		}
	}
}

// bases calls f with the tableaus of all bases of p, in which the columns increase.
func bases(p api.LP, f func(l *tableau.Tableau)) {
	lists(len(p.Rows), 0, p.Vars+len(p.Rows)-1, func(basis []int) {
		if l, e := tableau.FromBasis(p, basis...); e == api.OK && slices.IsSorted(basis) {
			f(l)
		}
	})
}

// tied returns a program with small integers, so that many points have equal values and many bases have the same solution.
func tied(g *rand.Rand) api.LP {
	small := func(n int, least int64) []api.Q {
		var a []api.Q
		for range n {
			a = append(a, frac.FromInt64(g.Int64N(3)+least))
		}
		return a
	}
	p := api.LP{Vars: 1 + g.IntN(3)}
	for range 1 + g.IntN(2) {
		p.Objectives = append(p.Objectives, small(g.IntN(p.Vars+1), -1))
	}
	for range 1 + g.IntN(3) {
		p.Rows, p.Bounds = append(p.Rows, small(1+g.IntN(p.Vars), -1)), append(p.Bounds, small(1, 0)[0])
	}
	return p
}

// near returns a point that is not far from x.
func near(g *rand.Rand, x []api.Q) []api.Q {
	other := slices.Clone(x)
	for k := range other {
		if g.IntN(2) == 0 {
			other[k] = frac.Max(api.Q{}, frac.Add(other[k], randomQ(g)))
		}
	}
	return other
}

// TestP73Best checks that the basic solution of a feasible and optimal basis is better than all other feasible points.
func TestP73Best(t *testing.T) {
	g, programs, others := generator(732), 0, 0
	for range 400 {
		p := tied(g)
		var points [][]api.Q
		var best []api.Q
		found := false
		bases(p, func(l *tableau.Tableau) {
			x := l.Solution()
			if l.Feasible() != lp.Feasible(p, x) {
				t.Errorf("Feasible = %t for the solution (%s) of %s", l.Feasible(), show(x), text(p))
			}
			if !l.Feasible() {
				return
			}
			points = append(points, x)
			if l.Optimal() {
				if found && show(best) != show(x) {
					t.Errorf("both (%s) and (%s) are optimal for %s", show(best), show(x), text(p))
				}
				best, found = x, true
			}
		})
		if !found {
			continue
		}
		programs++
		for range 20 {
			points = append(points, near(g, best))
		}
		for _, x := range points {
			if show(x) != show(best) && lp.Feasible(p, x) {
				others++
				if lp.Compare(p, best, x) != 1 {
					t.Errorf("(%s) is optimal, but not better than (%s) for %s", show(best), show(x), text(p))
				}
			}
		}
	}
	if programs < 100 || others < 500 {
		t.Errorf("%d programs have optimal bases, and %d other points", programs, others)
	}
}

// sorted returns what a tableau says of each of its basic columns, in the order of these columns.
func sorted(l *tableau.Tableau) (basis []int, rows [][]api.Q, rhs []api.Q) {
	basis = slices.Sorted(slices.Values(l.Basis()))
	for _, col := range basis {
		i := slices.Index(l.Basis(), col)
		rows, rhs = append(rows, l.Rows()[i]), append(rhs, l.RHS()[i])
	}
	return basis, rows, rhs
}

// wantSame checks that two tableaus have the same basis and differ in nothing but the order of their rows.
func wantSame(t *testing.T, a, b *tableau.Tableau) {
	t.Helper()
	basis, rows, rhs := sorted(a)
	other, otherRows, otherRHS := sorted(b)
	if !slices.Equal(basis, other) {
		t.Errorf("the basic columns are %v and %v", basis, other)
	}
	wantM(t, "Rows", otherRows, rows)
	wantV(t, "RHS", otherRHS, rhs)
	wantM(t, "ReducedCosts", b.ReducedCosts(), a.ReducedCosts())
	wantV(t, "Value", b.Value(), a.Value())
	wantV(t, "Solution", b.Solution(), a.Solution())
	if a.Feasible() != b.Feasible() || a.Optimal() != b.Optimal() {
		t.Errorf("is the basis %v feasible: %t and %t; is it optimal: %t and %t", basis, a.Feasible(), b.Feasible(), a.Optimal(), b.Optimal())
	}
}

// enter makes pivots in random order until all columns of the given basis are basic.
func enter(t *testing.T, g *rand.Rand, l *tableau.Tableau, basis []int) {
	t.Helper()
	for _, k := range g.Perm(len(basis)) {
		var fit []place
		for _, x := range places(l) {
			if x.col == basis[k] && !slices.Contains(basis, l.Basis()[x.row]) {
				fit = append(fit, x)
			}
		}
		if len(fit) == 0 {
			continue // The column is basic already.
		}
		next := fit[g.IntN(len(fit))]
		if e := l.Pivot(next.row, next.col); e != api.OK {
			t.Fatalf("Pivot(%d, %d) returns error %d", next.row, next.col, e)
		}
	}
}

// TestP73OnlyTheBasisMatters reaches the same basis in several ways.
func TestP73OnlyTheBasisMatters(t *testing.T) {
	g, moved := generator(733), 0
	for range 400 {
		p := randomP(g)
		l := started(t, p)
		wander(t, g, l, 6)
		basis := l.Basis()
		other := started(t, formP(p, g.IntN(4)))
		wander(t, g, other, g.IntN(4))
		enter(t, g, other, basis)
		wantSame(t, l, other)
		if !slices.Equal(basis, other.Basis()) {
			moved++
		}
		again := wantBasis(t, p, basis...)
		wantState(t, "FromBasis", stateOf(again), stateOf(l))
		g.Shuffle(len(basis), func(i, k int) { basis[i], basis[k] = basis[k], basis[i] })
		wantSame(t, l, wantBasis(t, p, basis...))
	}
	if moved < 20 {
		t.Errorf("the order of the rows differs only %d times", moved)
	}
}

// TestP73Undo takes pivots back.
func TestP73Undo(t *testing.T) {
	g, undone := generator(734), 0
	for range 150 {
		p := randomP(g)
		l := started(t, formP(p, g.IntN(4)))
		wander(t, g, l, g.IntN(4))
		before := stateOf(l)
		for _, x := range places(l) {
			old := l.Basis()[x.row]
			there, back := l.Pivot(x.row, x.col), l.Pivot(x.row, old)
			if there != api.OK || back != api.OK {
				t.Errorf("Pivot(%d, %d) and Pivot(%d, %d) return the errors %d and %d", x.row, x.col, x.row, old, there, back)
			}
			wantState(t, "a tableau after a pivot and its reverse", stateOf(l), before)
			undone++
		}
	}
	if undone < 150 {
		t.Errorf("%d pivots have been undone", undone)
	}
}
