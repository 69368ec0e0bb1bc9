package solve_test

import (
	"slices"
	"testing"

	"pylon/api"
	"pylon/frac"
	"pylon/mat"
	"pylon/solve"
	"pylon/vec"
)

// wantReduced checks Reduce, Rank and NullSpace for all forms of a matrix.
func wantReduced(t *testing.T, a, r [][]api.Q, pivots []int, null [][]api.Q) {
	t.Helper()
	for _, form := range forms(a) {
		gotR, gotPivots := solve.Reduce(form)
		wantM(t, "Reduce("+text(a)+")", gotR, r)
		if !slices.Equal(gotPivots, pivots) {
			t.Errorf("Reduce(%s) has the pivots %v, want %v", text(a), gotPivots, pivots)
		}
		if got := solve.Rank(form); got != len(pivots) {
			t.Errorf("Rank(%s) = %d, want %d", text(a), got, len(pivots))
		}
		wantM(t, "NullSpace("+text(a)+")", solve.NullSpace(form), null)
	}
}

func TestP51Values(t *testing.T) {
	for _, x := range []struct {
		m, r   string
		pivots []int
		null   string
	}{
		// No rows, empty rows and zero matrices.
		{"", "", nil, ""}, {";", "", nil, ""}, {";;;", "", nil, ""},
		{"0;", "", nil, "1;"}, {"0 0;", "", nil, "1 0; 0 1;"}, {"0; 0; 0;", "", nil, "1;"}, {"; 0; 0 0 0;;", "", nil, "1 0 0; 0 1 0; 0 0 1;"},
		// One row and one column.
		{"5;", "1;", []int{0}, ""}, {"-1/3;", "1;", []int{0}, ""}, {"0; 0; -2;", "1;", []int{0}, ""}, {"1; 2; 3;", "1;", []int{0}, ""},
		{"2 4 -6;", "1 2 -3;", []int{0}, "-2 1 0; 3 0 1;"}, {"0 0 3;", "0 0 1;", []int{2}, "1 0 0; 0 1 0;"}, {"0 2 3;", "0 1 3/2;", []int{1}, "1 0 0; 0 -3/2 1;"}, {"4 0 0;", "1 0 0;", []int{0}, "0 1 0; 0 0 1;"},
		// Square matrices, of full rank and not.
		{"2 4; 1 3;", "1 0; 0 1;", []int{0, 1}, ""}, {"0 1; 1 0;", "1 0; 0 1;", []int{0, 1}, ""}, {"1 2; 2 4;", "1 2;", []int{0}, "-2 1;"}, {"0 1; 0 2;", "0 1;", []int{1}, "1 0;"}, {"0 0; 3 6;", "1 2;", []int{0}, "-2 1;"},
		{"1 2 3; 4 5 6; 7 8 9;", "1 0 -1; 0 1 2;", []int{0, 1}, "1 -2 1;"}, {"0 0 1; 0 2 0; 3 0 0;", "1 0 0; 0 1 0; 0 0 1;", []int{0, 1, 2}, ""}, {"1 1 1; 1 1 2; 1 1 3;", "1 1 0; 0 0 1;", []int{0, 2}, "-1 1 0;"},
		// More columns than rows, and more rows than columns.
		{"1 2 3 4; 2 4 7 9;", "1 2 0 1; 0 0 1 1;", []int{0, 2}, "-2 1 0 0; -1 0 -1 1;"}, {"1 1 1; 0 2 1;", "1 0 1/2; 0 1 1/2;", []int{0, 1}, "-1/2 -1/2 1;"},
		{"1 2; 3 4; 5 6; 7 9;", "1 0; 0 1;", []int{0, 1}, ""}, {"1 2; -2 -4; 1/2 1; 3 6;", "1 2;", []int{0}, "-2 1;"}, {"0; 0; 7; 0;", "1;", []int{0}, ""}, {"0 0; 0 0; 0 5;", "0 1;", []int{1}, "1 0;"},
		// Zero columns ahead of the first pivot, between pivots and behind the last one.
		{"0 1 2 0 3; 0 2 4 0 7;", "0 1 2 0 0; 0 0 0 0 1;", []int{1, 4}, "1 0 0 0 0; 0 -2 1 0 0; 0 0 0 1 0;"}, {"0 0 0; 0 0 4; 0 0 8;", "0 0 1;", []int{2}, "1 0 0; 0 1 0;"},
		{"1 0 0 2 0; 3 0 0 4 0;", "1 0 0 0 0; 0 0 0 1 0;", []int{0, 3}, "0 1 0 0 0; 0 0 1 0 0; 0 0 0 0 1;"}, {"0 2 0 3; 0 0 0 5;", "0 1 0 0; 0 0 0 1;", []int{1, 3}, "1 0 0 0; 0 0 1 0;"},
		// Short rows.
		{"; 1 2;; 0 0 3; 4;", "1 0 0; 0 1 0; 0 0 1;", []int{0, 1, 2}, ""}, {"1; 1 1;; 2 3;", "1 0; 0 1;", []int{0, 1}, ""}, {"1; 0 0 0;", "1 0 0;", []int{0}, "0 1 0; 0 0 1;"}, {"3; 6;; 0 5; 0 10;", "1 0; 0 1;", []int{0, 1}, ""},
		{"2 1 4; 2;", "1 0 0; 0 1 4;", []int{0, 1}, "0 -4 1;"}, {"0 0 0 6; 3;", "1 0 0 0; 0 0 0 1;", []int{0, 3}, "0 1 0 0; 0 0 1 0;"},
		// Numbers of several words.
		{"18446744073709551616 1;", "1 1/18446744073709551616;", []int{0}, "-1/18446744073709551616 1;"}, {"18446744073709551616 1; 1 1/18446744073709551616;", "1 1/18446744073709551616;", []int{0}, "-1/18446744073709551616 1;"},
		{"18446744073709551616 1; 1 1/18446744073709551617;", "1 0; 0 1;", []int{0, 1}, ""},
	} {
		wantReduced(t, m(x.m), m(x.r), x.pivots, m(x.null))
	}
}

// Row operations on a matrix in reduced row echelon form, perhaps with additional zero rows, leave its reduced form as it is.
func TestP51KnownReducedForm(t *testing.T) {
	g := generator(511)
	for range 300 {
		cols := g.IntN(7)
		r, pivots := randomReduced(g, cols)
		a := mixed(g, append(slices.Clone(r), zeros(1+g.IntN(3), cols)...))
		wantReduced(t, trimmed(g, a), r, pivots, nullVectors(r, pivots, cols))
	}
}

// The shape of the reduced form and the row space are checked for matrices whose rank is not known beforehand.
func TestP51Shape(t *testing.T) {
	g := generator(512)
	for range 600 {
		a := trimmed(g, randomM(g, g.IntN(6), g.IntN(6)))
		r, pivots := solve.Reduce(disguised(a, g.IntN(4)))
		if len(r) != len(pivots) || !slices.IsSorted(pivots) {
			t.Fatalf("Reduce(%s) = (%s) with the pivots %v", text(a), text(r), pivots)
		}
		for i, row := range r {
			if len(row) != mat.Cols(a) || vec.Sign(row[:pivots[i]]) != 0 {
				t.Errorf("Reduce(%s): row %d is (%s), and its pivot is in column %d", text(a), i, show(row), pivots[i])
			}
		}
		for i, pivot := range pivots {
			wantV(t, "the column of a pivot", mat.Transpose(r)[pivot], vec.Unit(len(r), i))
		}
		for _, row := range a {
			var weights []api.Q
			for _, pivot := range pivots {
				weights = append(weights, mat.At([][]api.Q{row}, 0, pivot))
			}
			if !vec.Equal(mat.VecMul(weights, r), row) {
				t.Errorf("Reduce(%s) = (%s) does not span the row (%s)", text(a), text(r), show(row))
			}
		}
	}
}

func TestP51NullSpace(t *testing.T) {
	g := generator(513)
	for range 600 {
		a := trimmed(g, randomM(g, g.IntN(6), g.IntN(7)))
		_, pivots := solve.Reduce(a)
		free := freeColumns(pivots, mat.Cols(a))
		null := solve.NullSpace(disguised(a, g.IntN(4)))
		if len(null) != len(free) || solve.Rank(a)+len(null) != mat.Cols(a) {
			t.Fatalf("NullSpace(%s) = (%s), but the pivots are %v", text(a), text(null), pivots)
		}
		for i, x := range null {
			wantV(t, "the product with a vector of the null space", mat.MulVec(a, x), make([]api.Q, len(a)))
			var atFree []api.Q
			for _, k := range free {
				atFree = append(atFree, x[k])
			}
			wantV(t, "the elements at the free columns", atFree, vec.Unit(len(free), i))
			if len(x) != mat.Cols(a) {
				t.Errorf("NullSpace(%s) = (%s)", text(a), text(null))
			}
		}
	}
}

// The limits of packages vec and mat do not apply.
func TestP51LongMatrices(t *testing.T) {
	n := 65536 + 3
	row := make([]api.Q, n)
	row[1], row[n-1] = frac.FromInt64(2), frac.FromInt64(6)
	wide, high := [][]api.Q{row, v("0 1"), row}, mat.Transpose([][]api.Q{row, v("5 0")})
	r, pivots := solve.Reduce(wide)
	last := make([]api.Q, n)
	last[n-1] = frac.FromInt64(1)
	wantM(t, "Reduce of long rows", r, [][]api.Q{append(v("0 1"), make([]api.Q, n-2)...), last})
	if !slices.Equal(pivots, []int{1, n - 1}) || solve.Rank(wide) != 2 {
		t.Errorf("Reduce of long rows has the pivots %v and Rank is %d", pivots, solve.Rank(wide))
	}
	r, _ = solve.Reduce(high)
	wantM(t, "Reduce of many rows", r, m("1 0; 0 1;"))
	wantM(t, "NullSpace of many rows", solve.NullSpace(mat.Transpose(wide[:1])), nil)
	wantM(t, "NullSpace of a long zero row", solve.NullSpace(zeros(1, 1025)), diagonal(1025, "1"))
}
