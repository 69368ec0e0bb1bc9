package solve_test

import (
	"fmt"
	"math/rand/v2"
	"slices"
	"strings"
	"testing"

	"pylon/api"
	"pylon/frac"
	"pylon/mat"
	"pylon/vec"
	"pylon/whole"
)

// m returns the matrix with the given rows, each of which ends with a semicolon: ";" is one row without elements.
func m(s string) [][]api.Q {
	rows := strings.Split(s, ";")
	var a [][]api.Q
	for _, row := range rows[:len(rows)-1] {
		a = append(a, v(row))
	}
	return a
}

// v returns the vector with the given elements, separated by spaces.
func v(s string) []api.Q {
	var a []api.Q
	for word := range strings.FieldsSeq(s) {
		x, e := frac.Parse(word)
		if e != api.OK {
			panic(word + " is not a rational")
		}
		a = append(a, x)
	}
	return a
}

// show and text are the inverses of v and m, up to spaces.
func show(a []api.Q) string {
	var words []string
	for _, x := range a {
		words = append(words, frac.Format(x))
	}
	return strings.Join(words, " ")
}
func text(a [][]api.Q) string {
	var s strings.Builder
	for _, row := range a {
		s.WriteString(show(row) + ";")
	}
	return s.String()
}

// wantM checks the rows of a result, their lengths, and that all elements are canonical.
func wantM(t *testing.T, what string, got, want [][]api.Q) {
	t.Helper()
	if text(got) != text(want) {
		t.Errorf("%s = (%s), want (%s)", what, text(got), text(want))
	}
	for _, x := range slices.Concat(got...) {
		if !frac.IsCanonical(x) {
			t.Errorf("%s = (%s), but the element %v is not canonical", what, text(got), x)
		}
	}
}

// wantV checks the elements of a result, their number, and that all of them are canonical.
func wantV(t *testing.T, what string, got, want []api.Q) {
	t.Helper()
	wantM(t, what, [][]api.Q{got}, [][]api.Q{want})
}

// disguises are factors for disguise.
var disguises = []int64{-1, 30, 1, 0}

// disguise returns x in a form that is not canonical: with its parts multiplied by a factor, unless that is 0, and padded.
func disguise(x api.Q, factor int64) api.Q {
	if factor == 0 {
		return api.Q{Num: padded(x.Num), Den: padded(x.Den)}
	}
	by, den := whole.FromInt64(factor), x.Den
	if whole.Sign(den) == 0 {
		den = whole.FromInt64(1)
	}
	return api.Q{Num: padded(whole.Mul(x.Num, by)), Den: padded(whole.Mul(den, by))}
}

// disguised returns a copy of a with elements that are not canonical, and with foreign elements in the memory beyond the ends.
func disguised(a [][]api.Q, manner int) [][]api.Q {
	b := append(slices.Clone(a), v("8 9"))[:len(a)]
	for i, row := range a {
		b[i] = append(slices.Clone(row), v("-3 5/7")...)[:len(row)]
		for k, x := range row {
			b[i][k] = disguise(x, disguises[(manner+i+k)%len(disguises)])
		}
	}
	return b
}

// padded returns a with a zero word at its end and foreign words beyond it; 0 becomes negative.
func padded(a api.Z) api.Z {
	words := append(slices.Clone(a.W), 0, 7, 9)
	return api.Z{Neg: a.Neg || len(a.W) == 0, W: words[:len(a.W)+1]}
}

// forms returns a itself and copies with elements that are not canonical.
func forms(a [][]api.Q) [][][]api.Q {
	l := [][][]api.Q{a}
	for manner := range disguises {
		l = append(l, disguised(a, manner))
	}
	return l
}

// formsV does the same for a vector.
func formsV(a []api.Q) [][]api.Q {
	var l [][]api.Q
	for _, form := range forms([][]api.Q{a}) {
		l = append(l, form[0])
	}
	return l
}

// generator makes the same numbers in every run.
func generator(seed uint64) *rand.Rand { return rand.New(rand.NewPCG(5, seed)) }

// randomQ returns 0, a small integer, a fraction, or rarely a number of several words.
func randomQ(g *rand.Rand) api.Q {
	switch kind := g.IntN(20); {
	case kind < 7:
		return api.Q{}
	case kind < 13:
		return frac.FromInt64(g.Int64N(7) - 3)
	case kind < 19:
		x, _ := frac.New(g.Int64N(31)-15, 1+g.Int64N(9))
		return x
	}
	x, _ := frac.Div(frac.FromInteger(api.Z{W: []uint32{g.Uint32(), g.Uint32(), 1}}), frac.FromInt64(-1-g.Int64N(1<<40)))
	return x
}

func nonzero(g *rand.Rand) api.Q {
	for {
		if x := randomQ(g); frac.Sign(x) != 0 {
			return x
		}
	}
}

func randomV(g *rand.Rand, n int) []api.Q {
	var a []api.Q
	for range n {
		a = append(a, randomQ(g))
	}
	return a
}

// randomM returns a matrix of the given size. Some of its rows repeat others, so that the rank varies.
func randomM(g *rand.Rand, rows, cols int) [][]api.Q {
	var a [][]api.Q
	for i := range rows {
		row := randomV(g, cols)
		if i > 0 && g.IntN(4) == 0 {
			row = vec.AddScaled(randomQ(g), a[g.IntN(i)], vec.Scale(randomQ(g), a[g.IntN(i)]))
		}
		a = append(a, row)
	}
	return a
}

// trimmed returns a with some of its rows shortened by zeros at their ends, and with the same number of columns.
func trimmed(g *rand.Rand, a [][]api.Q) [][]api.Q {
	b := slices.Clone(a)
	for i, row := range a {
		for i > 0 && len(row) > 0 && frac.Sign(row[len(row)-1]) == 0 && g.IntN(4) > 0 {
			row = row[:len(row)-1]
		}
		b[i] = row
	}
	return b
}

// mixed returns a after random row operations, none of which changes the row space. It is as long as a.
func mixed(g *rand.Rand, a [][]api.Q) [][]api.Q {
	b := slices.Clone(a)
	for range 3 * len(a) {
		i, k := g.IntN(len(a)), g.IntN(len(a))
		switch {
		case i == k:
			b[i] = vec.Scale(nonzero(g), b[i])
		case g.IntN(3) == 0:
			b[i], b[k] = b[k], b[i]
		default:
			b[i] = vec.AddScaled(randomQ(g), b[k], b[i])
		}
	}
	return b
}

// randomReduced returns a matrix in reduced row echelon form, with the given number of columns, and the columns of its pivots.
func randomReduced(g *rand.Rand, cols int) (r [][]api.Q, pivots []int) {
	for k := range cols {
		if g.IntN(2) == 0 {
			pivots = append(pivots, k)
		}
	}
	for i, pivot := range pivots {
		row := randomV(g, cols)
		clear(row[:pivot])
		for _, other := range pivots[i:] {
			row[other] = api.Q{}
		}
		row[pivot] = frac.FromInt64(1)
		r = append(r, row)
	}
	return r, pivots
}

// freeColumns returns the columns without a pivot.
func freeColumns(pivots []int, cols int) []int {
	var free []int
	for k := range cols {
		if !slices.Contains(pivots, k) {
			free = append(free, k)
		}
	}
	return free
}

// nullVectors returns the basis of the null space that belongs to a reduced form.
func nullVectors(r [][]api.Q, pivots []int, cols int) [][]api.Q {
	var basis [][]api.Q
	for _, k := range freeColumns(pivots, cols) {
		x := vec.Unit(cols, k)
		for i, pivot := range pivots {
			x[pivot] = frac.Neg(mat.At(r, i, k))
		}
		basis = append(basis, x)
	}
	return basis
}

// zeros returns a matrix of zeros.
func zeros(rows, cols int) [][]api.Q {
	a := make([][]api.Q, rows)
	for i := range a {
		a[i] = make([]api.Q, cols)
	}
	return a
}

// diagonal returns a square matrix with the given element all along its diagonal. It may be larger than those of package mat.
func diagonal(n int, x string) [][]api.Q {
	a := zeros(n, n)
	for i := range a {
		a[i][i] = v(x)[0]
	}
	return a
}

// name describes a system in messages.
func name(a [][]api.Q, b []api.Q) string { return fmt.Sprintf("(%s) x = (%s)", text(a), show(b)) }
