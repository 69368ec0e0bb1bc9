package solve_test

import (
	"slices"
	"testing"

	"pylon/api"
	"pylon/frac"
	"pylon/mat"
	"pylon/solve"
	"pylon/vec"
)

// wantInverse checks Inverse and Det for all forms of a matrix. The empty determinant and inverse stand for errors.
func wantInverse(t *testing.T, a, inverse [][]api.Q, e api.Errno) {
	t.Helper()
	for _, form := range forms(a) {
		got, gotE := solve.Inverse(form)
		if gotE != e {
			t.Errorf("Inverse(%s) returns error %d, want %d", text(a), gotE, e)
		}
		wantM(t, "Inverse("+text(a)+")", got, inverse)
	}
}

func wantDet(t *testing.T, a [][]api.Q, det []api.Q, e api.Errno) {
	t.Helper()
	for _, form := range forms(a) {
		got, gotE := solve.Det(form)
		if gotE != e {
			t.Errorf("Det(%s) returns error %d, want %d", text(a), gotE, e)
		}
		wantV(t, "Det("+text(a)+")", []api.Q{got}, det)
	}
}

func TestP53Inverses(t *testing.T) {
	for _, x := range []struct{ m, det, inverse string }{
		{"", "1", ""}, {"1;", "1", "1;"}, {"2;", "2", "1/2;"}, {"-3/2;", "-3/2", "-2/3;"}, {"18446744073709551616;", "18446744073709551616", "1/18446744073709551616;"},
		{"2 4; 1 3;", "2", "3/2 -2; -1/2 1;"}, {"0 1; 1 0;", "-1", "0 1; 1 0;"}, {"1 2; 3 4;", "-2", "-2 1; 3/2 -1/2;"}, {"3 0; 0 1/3;", "1", "1/3 0; 0 3;"}, {"1 5; 0 1;", "1", "1 -5; 0 1;"},
		{"0 0 1; 0 2 0; 3 0 0;", "-6", "0 0 1/3; 0 1/2 0; 1 0 0;"}, {"0 1 0; 0 0 1; 1 0 0;", "1", "0 0 1; 1 0 0; 0 1 0;"}, {"2 0 0; 0 0 3; 0 5 0;", "-30", "1/2 0 0; 0 0 1/5; 0 1/3 0;"},
		{"1 1/2 1/3; 1/2 1/3 1/4; 1/3 1/4 1/5;", "1/2160", "9 -36 30; -36 192 -180; 30 -180 180;"}, {"1 2 3; 0 1 4; 5 6 0;", "1", "-24 18 5; 20 -15 -4; -5 4 1;"},
		{"0 0 0 2; 0 0 2 0; 0 2 0 0; 2 0 0 0;", "16", "0 0 0 1/2; 0 0 1/2 0; 0 1/2 0 0; 1/2 0 0 0;"}, {"0 2 0 0; 3 0 0 0; 0 0 0 4; 0 0 5 0;", "120", "0 1/3 0 0; 1/2 0 0 0; 0 0 0 1/5; 0 0 1/4 0;"},
		// Short rows.
		{"0 1; 1;", "-1", "0 1; 1 0;"}, {"2; 4 1;", "2", "1/2 0; -2 1;"}, {"0 0 1; 0 1; 1;", "-1", "0 0 1; 0 1 0; 1 0 0;"}, {"4; 0 4; 0 0 4;", "64", "1/4 0 0; 0 1/4 0; 0 0 1/4;"},
	} {
		wantDet(t, m(x.m), v(x.det), api.OK)
		wantInverse(t, m(x.m), m(x.inverse), api.OK)
	}
}

func TestP53NoInverse(t *testing.T) {
	for _, x := range []string{
		"0;", "0 0; 0 0;", "1 2; 2 4;", "0 1; 0 2;", "0 0; 3 4;", "1 2 3; 4 5 6; 7 8 9;", "1 1 1; 1 1 2; 1 1 3;", "0 1 2; 0 3 4; 0 5 7;", "1 2 3; 1 2 3; 0 0 1;", "1 2 3; 0 0 0; 4 5 7;", "1/2 1/3; 1/4 1/6;",
		"1 2;;", "; 1 2;", "; 0 0;", "1 0; 1;", "1; 2; 3 0 0;", ";; 1 2 3;", "1 0 0 0; 0 1; 0 0 1;;", "18446744073709551616 1; 1 1/18446744073709551616;",
	} {
		wantDet(t, m(x), v("0"), api.OK)
		wantInverse(t, m(x), nil, api.ErrNone)
	}
}

func TestP53NotSquare(t *testing.T) {
	for _, x := range []string{
		";", ";;", "1 2;", "1; 2;", "0; 0;", "0 0;", "; 1;", "1;;", "1 0 0; 0 1;", "1 2; 3 4; 5 6;", "1 2; 3 4;;", "1 2 3; 4 5 6;", "1; 2 3; 4 5;", "; 1 2;;", "1; 1; 1 1 1 1;", "1 0; 0 1 0;",
	} {
		wantDet(t, m(x), v("0"), api.ErrSquare)
		wantInverse(t, m(x), nil, api.ErrSquare)
	}
}

// expanded returns the determinant by expansion along the first column.
func expanded(a [][]api.Q) api.Q {
	if len(a) == 0 {
		return frac.FromInt64(1)
	}
	var det api.Q
	for i, row := range a {
		var minor [][]api.Q
		for _, other := range slices.Concat(a[:i], a[i+1:]) {
			minor = append(minor, other[1:])
		}
		term := frac.Mul(row[0], expanded(minor))
		if i%2 == 1 {
			term = frac.Neg(term)
		}
		det = frac.Add(det, term)
	}
	return det
}

func TestP53RandomMatrices(t *testing.T) {
	g, inverses := generator(53), 0
	for range 600 {
		n := 1 + g.IntN(5)
		full := randomM(g, n, n)
		full[0][n-1] = nonzero(g)
		a := trimmed(g, full)
		det := expanded(full)
		wantDet(t, a, []api.Q{det}, api.OK)
		inverse, e := solve.Inverse(disguised(a, g.IntN(4)))
		if frac.Sign(det) == 0 {
			wantInverse(t, a, nil, api.ErrNone)
			continue
		}
		inverses++
		wantInverse(t, a, inverse, e)
		if e != api.OK {
			t.Errorf("Inverse(%s) returns error %d", text(a), e)
		}
		wantM(t, "m times its inverse", mat.Mul(a, inverse), mat.Identity(n))
		wantM(t, "the inverse times m", mat.Mul(inverse, a), mat.Identity(n))
	}
	if inverses < 200 || inverses > 550 {
		t.Errorf("%d of 600 matrices have an inverse", inverses)
	}
}

// The limit of mat.Identity does not apply.
func TestP53LargeMatrices(t *testing.T) {
	n := 1025
	a := diagonal(n, "-1")
	a[0], a[n-1] = a[n-1], a[0]
	if det, e := solve.Det(a); e != api.OK || frac.Format(det) != "1" {
		t.Errorf("Det of a large matrix = %s with error %d", frac.Format(det), e)
	}
	inverse, e := solve.Inverse(a)
	if e != api.OK || len(inverse) != n || mat.Cols(inverse) != n || !mat.Equal(inverse, a) {
		t.Errorf("Inverse of a large matrix has %d rows, with error %d", len(inverse), e)
	}
	a[5] = vec.Unit(n, n-1)
	if det, e := solve.Det(a); e != api.OK || frac.Sign(det) != 0 {
		t.Errorf("Det of a large matrix without an inverse = %s with error %d", frac.Format(det), e)
	}
}
