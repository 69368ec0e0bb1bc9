package solve_test

import (
	"math/rand/v2"
	"slices"
	"testing"

	"pylon/api"
	"pylon/frac"
	"pylon/mat"
	"pylon/solve"
	"pylon/vec"
)

// equations returns the number of equations of a x = b.
func equations(a [][]api.Q, b []api.Q) int { return max(len(a), len(b)) }

// product returns a x with an element for each of n equations.
func product(a [][]api.Q, x []api.Q, n int) []api.Q {
	return vec.Resize(mat.MulVec(a, x), n)
}

// wantSolved checks that Solve finds the given solution and basis, and that Certificate finds nothing.
func wantSolved(t *testing.T, a [][]api.Q, b, x []api.Q, free [][]api.Q) {
	t.Helper()
	for _, form := range forms(a) {
		for _, right := range formsV(b) {
			gotX, gotFree, e := solve.Solve(form, right)
			if e != api.OK {
				t.Fatalf("Solve returns error %d for %s", e, name(a, b))
			}
			wantV(t, "the solution of "+name(a, b), gotX, x)
			wantM(t, "the null space of "+name(a, b), gotFree, free)
			if y, is := solve.Certificate(form, right); is || len(y) > 0 {
				t.Errorf("Certificate returns (%s) and %t for %s", show(y), is, name(a, b))
			}
		}
	}
}

// wantUnsolved checks that Solve finds nothing and that Certificate finds a proof.
func wantUnsolved(t *testing.T, a [][]api.Q, b []api.Q) {
	t.Helper()
	for _, form := range forms(a) {
		for _, right := range formsV(b) {
			if x, free, e := solve.Solve(form, right); e != api.ErrNone || len(x) > 0 || len(free) > 0 {
				t.Errorf("Solve returns (%s), (%s) and error %d for %s, want no solution", show(x), text(free), e, name(a, b))
			}
			y, is := solve.Certificate(form, right)
			if !is || len(y) != equations(a, b) {
				t.Fatalf("Certificate returns (%s) and %t for %s", show(y), is, name(a, b))
			}
			wantV(t, "y m for "+name(a, b), mat.VecMul(y, a), make([]api.Q, mat.Cols(a)))
			wantV(t, "y b for "+name(a, b), []api.Q{vec.Dot(y, b)}, v("1"))
			wantV(t, "y for "+name(a, b), y, y)
		}
	}
}

func TestP52Solutions(t *testing.T) {
	for _, x := range []struct{ m, b, x, free string }{
		// One solution.
		{"2 4; 1 3;", "6 4", "1 1", ""}, {"5;", "3", "3/5", ""}, {"0 1; 1 0;", "3 4", "4 3", ""}, {"1 1 1; 0 1 1; 0 0 1;", "3 2 1", "1 1 1", ""}, {"1/2 1/3; 1/4 -1;", "1 0", "12/7 3/7", ""},
		{"1 2; 3 4; 5 6;", "5 11 17", "1 2", ""}, {"18446744073709551616;", "1", "1/18446744073709551616", ""}, {"2; 4; 0;", "3 6 0", "3/2", ""},
		// Several solutions.
		{"1 2; 2 4;", "1 2", "1 0", "-2 1;"}, {"1 1 1;", "6", "6 0 0", "-1 1 0; -1 0 1;"}, {"0 2; 0 4;", "2 4", "0 1", "1 0;"}, {"0 0;", "0", "0 0", "1 0; 0 1;"}, {"0 3 0 6; 0 0 0 2;", "9 2", "0 1 0 1", "1 0 0 0; 0 0 1 0;"},
		{"1 2 3 4; 2 4 7 9;", "5 11", "2 0 1 0", "-2 1 0 0; -1 0 -1 1;"}, {"1 2 0; 2 4 0; 0 0 5;", "3 6 -5", "3 0 -1", "-2 1 0;"},
		// No rows, no columns.
		{"", "", "", ""}, {"", "0", "", ""}, {"", "0 0 0", "", ""}, {";", "", "", ""}, {";", "0", "", ""}, {";;;", "0 0", "", ""}, {";", "0 0", "", ""},
		// A right side that is shorter than the matrix.
		{"2 4; 1 3;", "", "0 0", ""}, {"2 4; 1 3;", "4", "6 -2", ""}, {"1 0; 0 2;", "5", "5 0", ""}, {"1 2; 2 4;", "", "0 0", "-2 1;"}, {"1; 0; 0;", "7", "7", ""}, {"0 0 0; 0 0 0;", "0", "0 0 0", "1 0 0; 0 1 0; 0 0 1;"},
		// One that is longer.
		{"1 1;", "2 0", "2 0", "-1 1;"}, {"5;", "5 0 0 0", "1", ""}, {"2 4; 1 3;", "6 4 0", "1 1", ""}, {"0;", "0 0", "0", "1;"},
		// Short rows.
		{"1; 0 1;;", "4 5", "4 5", ""}, {";; 0 2;", "0 0 6", "0 3", "1 0;"}, {"3; 1 1; 6;", "3 3 6", "1 2", ""}, {"1; 0 0 0;", "2", "2 0 0", "0 1 0; 0 0 1;"},
	} {
		wantSolved(t, m(x.m), v(x.b), v(x.x), m(x.free))
	}
}

func TestP52NoSolution(t *testing.T) {
	for _, x := range []struct{ m, b string }{
		{"1 2; 2 4;", "1 3"}, {"0;", "1"}, {"0 0; 0 0;", "0 -1/2"}, {"0 0; 0 0;", "3"}, {"1; 1;", "1 2"}, {"1 2; 3 4; 5 6;", "1 1 2"}, {"1 1 1; 1 1 1;", "0 1"}, {"1 2 3; 4 5 6; 7 8 9;", "1 0 0"},
		{"0 1; 0 1;", "1 0"}, {"18446744073709551616 1; 1 1/18446744073709551616;", "1 1"}, {"1/2; 1/3;", "1/2 1/2"}, {"1 -1 0; 0 1 -1; -1 0 1;", "1 1 -1"},
		// No rows, no columns.
		{"", "1"}, {"", "0 0 -5 0"}, {";", "1"}, {";;", "0 1/3"}, {";", "0 7"}, {";;;", "2 3"},
		// A right side that is shorter or longer than the matrix.
		{"1 0; 0 1; 1 1;", "3"}, {"1; 2;", "5"}, {"1; 2; 3;", "1 2"}, {"1 1;", "2 1"}, {"5;", "5 0 0 1"}, {"2 4; 1 3;", "6 4 -1"}, {"0;", "0 1"},
		// Short rows.
		{"; 1 2;", "1 1"}, {"1; 1 0; 2;", "1 1 1"}, {"1 1;; 0 1;", "1 1/7 1"},
	} {
		wantUnsolved(t, m(x.m), v(x.b))
	}
}

// joined returns [a b], and parted undoes that.
func joined(a [][]api.Q, b []api.Q) [][]api.Q {
	return mat.Concat(a, mat.Transpose([][]api.Q{b}))
}
func parted(a [][]api.Q, cols int) (left [][]api.Q, b []api.Q) {
	for _, row := range a {
		left, b = append(left, row[:cols]), append(b, row[cols])
	}
	return left, b
}

// system returns a system of at least two equations that is equivalent to r x = c and 0 = last.
func system(g *rand.Rand, r [][]api.Q, cols int, c []api.Q, last api.Q) ([][]api.Q, []api.Q) {
	rows := append(slices.Clone(r), zeros(1+g.IntN(2), cols)...)
	right := append(slices.Clone(c), make([]api.Q, len(rows)-len(c))...)
	right[len(c)] = last
	if cols == 0 {
		return rows, right
	}
	a, b := parted(mixed(g, joined(rows, right)), cols)
	for g.IntN(3) > 0 && len(b) > 0 && frac.Sign(b[len(b)-1]) == 0 {
		b = b[:len(b)-1]
	}
	return trimmed(g, a), b
}

// The systems are made from known reduced forms.
func TestP52KnownSystems(t *testing.T) {
	g := generator(521)
	for range 150 {
		cols := g.IntN(6)
		r, pivots := randomReduced(g, cols)
		c := randomV(g, len(pivots))
		x := make([]api.Q, cols)
		for i, pivot := range pivots {
			x[pivot] = c[i]
		}
		a, b := system(g, r, cols, c, api.Q{})
		wantSolved(t, a, b, x, nullVectors(r, pivots, cols))
		a, b = system(g, r, cols, c, nonzero(g))
		wantUnsolved(t, a, b)
	}
}

func TestP52SolutionsHold(t *testing.T) {
	g, solved, unsolved := generator(522), 0, 0
	for range 1000 {
		a, b := trimmed(g, randomM(g, g.IntN(5), g.IntN(5))), randomV(g, g.IntN(6))
		if g.IntN(2) == 0 {
			b = mat.MulVec(a, randomV(g, g.IntN(5)))
		}
		x, free, e := solve.Solve(disguised(a, g.IntN(4)), formsV(b)[g.IntN(5)])
		if e != api.OK {
			unsolved++
			wantUnsolved(t, a, b)
			continue
		}
		solved++
		n := equations(a, b)
		wantV(t, "m x for "+name(a, b), product(a, x, n), vec.Resize(b, n))
		_, pivots := solve.Reduce(a)
		for _, k := range freeColumns(pivots, mat.Cols(a)) {
			wantV(t, "the solution at a free column of "+name(a, b), x[k:k+1], v("0"))
		}
		wantM(t, "the null space of "+name(a, b), free, solve.NullSpace(a))
		wantSolved(t, a, b, x, free)
	}
	if solved < 300 || unsolved < 300 {
		t.Errorf("%d systems have a solution and %d have none", solved, unsolved)
	}
}

// The limits of packages vec and mat do not apply.
func TestP52LongSystems(t *testing.T) {
	n := 65536 + 3
	b := make([]api.Q, n)
	a := [][]api.Q{v("2")}
	b[0] = frac.FromInt64(3)
	x, free, e := solve.Solve(a, b)
	wantV(t, "the solution of many equations", x, v("3/2"))
	wantM(t, "the null space of many equations", free, nil)
	b[n-1] = frac.FromInt64(4)
	if x, _, second := solve.Solve(a, b); e != api.OK || second != api.ErrNone || len(x) > 0 {
		t.Errorf("Solve returns the errors %d and %d for many equations, want %d and %d", e, second, api.OK, api.ErrNone)
	}
	y, is := solve.Certificate(a, b)
	if !is || len(y) != n || frac.Sign(vec.Dot(y, b[:n-1])) != 0 || frac.Sign(y[0]) != 0 {
		t.Errorf("Certificate returns a vector with %d elements and %t for many equations", len(y), is)
	} else {
		wantV(t, "the last element of a certificate", y[n-1:], v("1/4"))
	}
	wide := zeros(2, n)
	wide[0][n-1], wide[1][n-1] = frac.FromInt64(1), frac.FromInt64(2)
	y, is = solve.Certificate(wide, v("1 4"))
	if !is {
		t.Error("Certificate finds nothing for two equations in many variables")
	}
	wantV(t, "a certificate for many variables", y, v("-1 1/2"))
	x, _, e = solve.Solve(diagonal(1026, "4"), vec.Unit(1026, 1025))
	if e != api.OK {
		t.Errorf("Solve returns error %d for a large diagonal matrix", e)
	}
	wantV(t, "the solution of many equations in many variables", x, append(make([]api.Q, 1025), v("1/4")...))
}
