package mat_test

import (
	"math/rand/v2"
	"slices"
	"strings"
	"testing"

	"pylon/api"
	"pylon/frac"
	"pylon/whole"
)

// q returns the rational with the given text. It is in canonical form.
func q(s string) api.Q {
	a, e := frac.Parse(s)
	if e != api.OK {
		panic("not a rational: " + s)
	}
	return a
}

// v returns the vector with the given elements, separated by spaces. They are in canonical form.
func v(s string) []api.Q {
	var l []api.Q
	for _, field := range strings.Fields(s) {
		l = append(l, q(field))
	}
	return l
}

// m returns the matrix with the given rows, each of which ends with a semicolon: ";" has one row without elements.
func m(s string) [][]api.Q {
	var l [][]api.Q
	for row := range strings.SplitAfterSeq(s, ";") {
		if before, is := strings.CutSuffix(row, ";"); is {
			l = append(l, v(before))
		}
	}
	return l
}

// text and rowText are the inverses of m and v, for messages.
func text(a [][]api.Q) string {
	var l []string
	for _, row := range a {
		l = append(l, rowText(row)+";")
	}
	return "(" + strings.Join(l, " ") + ")"
}
func rowText(a []api.Q) string {
	var l []string
	for _, x := range a {
		l = append(l, frac.Format(x))
	}
	return strings.Join(l, " ")
}

func sameQ(a, b api.Q) bool {
	return a.Num.Neg == b.Num.Neg && a.Den.Neg == b.Den.Neg && slices.Equal(a.Num.W, b.Num.W) && slices.Equal(a.Den.W, b.Den.W)
}

func wantQ(t *testing.T, what string, got, want api.Q) {
	t.Helper()
	if !sameQ(got, want) {
		t.Errorf("%s = %v, want %v", what, got, want)
	}
}

// wantV checks a result, its length and its form; want has to be canonical.
func wantV(t *testing.T, what string, got, want []api.Q) {
	t.Helper()
	if len(got) != len(want) {
		t.Errorf("%s = (%s), which has length %d, want length %d", what, rowText(got), len(got), len(want))
		return
	}
	for i := range want {
		if !sameQ(got[i], want[i]) {
			t.Errorf("%s: element %d of %d is %v, want %v", what, i, len(want), got[i], want[i])
		}
	}
}

// wantM checks a result, the number of its rows, their lengths and its form; want has to be canonical.
func wantM(t *testing.T, what string, got, want [][]api.Q) {
	t.Helper()
	if len(got) != len(want) {
		t.Errorf("%s has %d rows, want %d", what, len(got), len(want))
		return
	}
	for i := range want {
		wantV(t, what+": row "+frac.Format(frac.FromInt64(int64(i))), got[i], want[i])
	}
}

// manners is the number of ways in which odd represents a rational.
const manners = 5

// odd returns the canonical rational a in a form that is not canonical, in the given manner.
func odd(a api.Q, manner int) api.Q {
	num, den := a.Num, a.Den
	if manner > 0 {
		k := whole.FromInt64([]int64{-1, 6, -1 << 32, -15}[manner-1])
		num = whole.Mul(num, k)
		if len(den.W) > 0 {
			k = whole.Mul(den, k)
		}
		den = k
	}
	b := api.Q{Num: padded(num, manner%3), Den: padded(den, 1)}
	// The sign of 0 has no meaning.
	b.Num.Neg = num.Neg || len(num.W) == 0
	return b
}

// padded returns a copy of a with zero words at its end, and foreign words beyond it.
func padded(a api.Z, zeros int) api.Z {
	words := append(slices.Clone(a.W), make([]uint32, zeros)...)
	return api.Z{Neg: a.Neg, W: append(words, 0xdead, 0, 7)[:len(words)]}
}

// oddRow returns the canonical vector a with elements that are not canonical, and with foreign elements beyond its end.
func oddRow(a []api.Q, manner int) []api.Q {
	row := append(slices.Clone(a), q("-3"), q("5/7"), q("1000000000000000000000"))[:len(a)]
	for i, x := range a {
		row[i] = odd(x, (manner+i)%manners)
	}
	return row
}

// oddForm returns the canonical matrix a with elements that are not canonical, and with foreign rows beyond its end.
// Its empty rows are nil or not, depending on the manner.
func oddForm(a [][]api.Q, manner int) [][]api.Q {
	l := append(slices.Clone(a), v("8 9"), v("-1/2"))[:len(a)]
	for i, row := range a {
		l[i] = oddRow(row, (manner+i)%manners)
		if len(row) == 0 && (manner+i)%2 == 0 {
			l[i] = nil
		}
	}
	return l
}

// forms returns representations of the canonical matrix a. The first is a itself; the elements of the others are not canonical.
func forms(a [][]api.Q) [][][]api.Q {
	l := [][][]api.Q{a}
	for manner := range manners {
		l = append(l, oddForm(a, manner))
	}
	return l
}

// generator makes the same numbers in every run.
func generator(seed uint64) *rand.Rand { return rand.New(rand.NewPCG(4, seed)) }

// randomQ returns a canonical rational: often 0, often small, sometimes of several words.
func randomQ(g *rand.Rand) api.Q {
	switch g.IntN(7) {
	case 0, 1:
		return api.Q{}
	case 2, 3:
		return frac.FromInt64(g.Int64N(7) - 3)
	case 4, 5:
		a, _ := frac.New(g.Int64N(41)-20, 1+g.Int64N(12))
		return a
	}
	return frac.Canonical(api.Q{
		Num: api.Z{Neg: g.IntN(2) == 0, W: []uint32{g.Uint32(), g.Uint32(), g.Uint32()}},
		Den: api.Z{W: []uint32{g.Uint32(), g.Uint32N(3)}},
	})
}

func randomV(g *rand.Rand, most int) []api.Q {
	l := make([]api.Q, g.IntN(most+1))
	for i := range l {
		l[i] = randomQ(g)
	}
	return l
}

// random returns a canonical matrix with at most the given number of rows and columns; half of them have rows of different lengths.
func random(g *rand.Rand, most int) [][]api.Q {
	l := make([][]api.Q, g.IntN(most+1))
	cols, ragged := g.IntN(most+1), g.IntN(2) == 0
	for i := range l {
		if ragged {
			cols = g.IntN(most + 1)
		}
		for range cols {
			l[i] = append(l[i], randomQ(g))
		}
	}
	return l
}

// randomForm returns one of the representations of the canonical matrix a.
func randomForm(g *rand.Rand, a [][]api.Q) [][]api.Q {
	if manner := g.IntN(manners + 1); manner < manners {
		return oddForm(a, manner)
	}
	return a
}

// width returns the number of columns, at the element in row i and column k: what the package under test has to find.
func width(a [][]api.Q) int {
	cols := 0
	for _, row := range a {
		if len(row) > cols {
			cols = len(row)
		}
	}
	return cols
}
func at(a [][]api.Q, i, k int) api.Q {
	if i < len(a) && k < len(a[i]) {
		return frac.Canonical(a[i][k])
	}
	return api.Q{}
}

// table returns the matrix of the given size whose elements are the results of f.
func table(rows, cols int, f func(i, k int) api.Q) [][]api.Q {
	l := make([][]api.Q, rows)
	for i := range l {
		for k := range cols {
			l[i] = append(l[i], f(i, k))
		}
	}
	return l
}

// sum returns the sum of n results of f.
func sum(n int, f func(i int) api.Q) api.Q {
	var total api.Q
	for i := range n {
		total = frac.Add(total, f(i))
	}
	return total
}
