package solve_test

import (
	"math/rand/v2"
	"slices"
	"testing"

	"pylon/api"
	"pylon/frac"
	"pylon/mat"
	"pylon/solve"
	"pylon/vec"
)

func TestP54SolutionOrCertificate(t *testing.T) {
	g, solved, unsolved := generator(541), 0, 0
	for range 1500 {
		a, b := disguised(trimmed(g, randomM(g, g.IntN(5), g.IntN(5))), g.IntN(4)), formsV(randomV(g, g.IntN(5)))[g.IntN(5)]
		_, _, e := solve.Solve(a, b)
		y, is := solve.Certificate(a, b)
		switch {
		case (e == api.OK) == is || e != api.OK && e != api.ErrNone:
			t.Errorf("Solve returns error %d and Certificate %t for %s", e, is, name(a, b))
		case is:
			unsolved++
			wantV(t, "y m and y b for "+name(a, b), append(mat.VecMul(y, a), vec.Dot(y, b)), vec.Unit(mat.Cols(a)+1, mat.Cols(a)))
		default:
			solved++
		}
		// A system has a solution if and only if the right side does not add to the rank.
		if rank := solve.Rank(joined(a, vec.Resize(b, equations(a, b)))); (rank > solve.Rank(a)) != is {
			t.Errorf("the rank of [m b] is %d and that of m is %d, but Certificate returns %t for %s", rank, solve.Rank(a), is, name(a, b))
		}
	}
	if solved < 300 || unsolved < 300 {
		t.Errorf("%d systems have a solution and %d have none", solved, unsolved)
	}
}

func TestP54AllSolutions(t *testing.T) {
	g, several := generator(542), 0
	for range 1000 {
		a := trimmed(g, randomM(g, g.IntN(5), g.IntN(6)))
		wanted := randomV(g, mat.Cols(a))
		b := mat.MulVec(a, wanted)
		x, free, e := solve.Solve(disguised(a, g.IntN(4)), formsV(b)[g.IntN(5)])
		_, pivots := solve.Reduce(a)
		columns := freeColumns(pivots, mat.Cols(a))
		if e != api.OK || len(free) != len(columns) {
			t.Fatalf("Solve returns error %d and %d vectors for %s", e, len(free), name(a, b))
		}
		// The coefficients of a solution are its elements at the free columns, and any coefficients make a solution.
		sum, other := x, x
		for i, k := range columns {
			sum, other = vec.AddScaled(wanted[k], free[i], sum), vec.AddScaled(randomQ(g), free[i], other)
		}
		wantV(t, "a solution of "+name(a, b), sum, wanted)
		wantV(t, "the right side of "+name(a, b), mat.MulVec(a, other), b)
		several += len(columns)
	}
	if several < 500 {
		t.Errorf("all null spaces together have %d dimensions", several)
	}
}

// det returns the determinant of a matrix that is square.
func det(t *testing.T, a [][]api.Q) api.Q {
	t.Helper()
	d, e := solve.Det(a)
	if e != api.OK {
		t.Errorf("Det(%s) returns error %d", text(a), e)
	}
	return d
}

// square returns a square matrix, in a form that is not canonical.
func square(g *rand.Rand, n int) [][]api.Q {
	return disguised(randomM(g, n, n), g.IntN(4))
}

func TestP55InverseAndDeterminant(t *testing.T) {
	g := generator(551)
	for range 800 {
		n := g.IntN(5)
		a := square(g, n)
		inverse, e := solve.Inverse(a)
		d := det(t, a)
		if frac.Sign(d) == 0 {
			if e != api.ErrNone || solve.Rank(a) == n {
				t.Errorf("Inverse(%s) returns error %d and the rank is %d, but the determinant is 0", text(a), e, solve.Rank(a))
			}
			continue
		}
		if e != api.OK || solve.Rank(a) != n {
			t.Fatalf("Inverse(%s) returns error %d and the rank is %d, but the determinant is %s", text(a), e, solve.Rank(a), frac.Format(d))
		}
		wantV(t, "the product of determinants", []api.Q{frac.Mul(d, det(t, inverse))}, v("1"))
		again, e := solve.Inverse(inverse)
		wantM(t, "the inverse of the inverse", again, mat.Scale(frac.FromInt64(1), a))
		x, free, e2 := solve.Solve(a, vec.Unit(n, n-1))
		if e != api.OK || e2 != api.OK || len(free) > 0 {
			t.Errorf("Inverse and Solve return the errors %d and %d for %s", e, e2, text(a))
		}
		wantV(t, "the last column of the inverse of "+text(a), x, mat.MulVec(inverse, vec.Unit(n, n-1)))
	}
}

func TestP55Products(t *testing.T) {
	g := generator(552)
	for range 500 {
		n := g.IntN(5)
		a, b := square(g, n), square(g, n)
		d := det(t, a)
		wantV(t, "the determinant of a product", []api.Q{det(t, mat.Mul(a, b))}, []api.Q{frac.Mul(d, det(t, b))})
		wantV(t, "the determinant of a transpose", []api.Q{det(t, mat.Transpose(a))}, []api.Q{d})
		inverse, e := solve.Inverse(a)
		transposed, e2 := solve.Inverse(mat.Transpose(a))
		if e != e2 {
			t.Errorf("Inverse returns error %d for %s and %d for the transpose", e, text(a), e2)
		}
		wantM(t, "the inverse of a transpose", transposed, mat.Transpose(inverse))
	}
}

func TestP55RowOperations(t *testing.T) {
	g := generator(553)
	for range 500 {
		n := 2 + g.IntN(4)
		a := square(g, n)
		i, k := g.IntN(n), g.IntN(n-1)
		if k >= i {
			k++
		}
		exchanged, added, scaled := slices.Clone(a), slices.Clone(a), slices.Clone(a)
		factor := randomQ(g)
		exchanged[i], exchanged[k] = exchanged[k], exchanged[i]
		added[i] = vec.AddScaled(factor, a[k], a[i])
		scaled[i] = vec.Scale(factor, a[i])
		d := det(t, a)
		wantV(t, "the determinant after an exchange of rows of "+text(a), []api.Q{det(t, exchanged)}, []api.Q{frac.Neg(d)})
		wantV(t, "the determinant after a row has been added in "+text(a), []api.Q{det(t, added)}, []api.Q{d})
		wantV(t, "the determinant after a row has been scaled in "+text(a), []api.Q{det(t, scaled)}, []api.Q{frac.Mul(factor, d)})
	}
}
