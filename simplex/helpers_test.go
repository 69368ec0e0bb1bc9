package simplex_test

import (
	"fmt"
	"math/rand/v2"
	"slices"
	"strings"
	"testing"

	"pylon/api"
	"pylon/frac"
	"pylon/whole"
)

// q returns the rational with the given text, and v the vector with the given elements, separated by spaces.
func q(s string) api.Q {
	x, e := frac.Parse(s)
	if e != api.OK {
		panic(s + " is not a rational")
	}
	return x
}
func v(s string) []api.Q {
	var a []api.Q
	for word := range strings.FieldsSeq(s) {
		a = append(a, q(word))
	}
	return a
}

// m returns the vectors with the given elements, each of which ends with a semicolon: ";" is one vector without elements.
func m(s string) [][]api.Q {
	var l [][]api.Q
	for rest := s; rest != ""; {
		word, more, _ := strings.Cut(rest, ";")
		l, rest = append(l, v(word)), strings.TrimSpace(more)
	}
	return l
}

// program returns the program with the given number of variables, objectives, constraints and right-hand sides.
func program(vars int, objectives, rows, bounds string) api.LP {
	return api.LP{Vars: vars, Objectives: m(objectives), Rows: m(rows), Bounds: v(bounds)}
}

// sample is the program of the chapter's example.
func sample() api.LP { return program(2, "3 5;", "1; 0 2; 3 2;", "4 12 18") }

// show, list and text are the inverses of v, m and program, up to spaces.
func show(a []api.Q) string {
	var words []string
	for _, x := range a {
		words = append(words, frac.Format(x))
	}
	return strings.Join(words, " ")
}
func list(l [][]api.Q) string {
	var s strings.Builder
	for _, a := range l {
		s.WriteString(show(a) + ";")
	}
	return s.String()
}
func text(p api.LP) string {
	return fmt.Sprintf("%d variables, max %s subject to %s <= %s", p.Vars, list(p.Objectives), list(p.Rows), show(p.Bounds))
}

// at returns the element of a at index i, which is 0 beyond the end.
func at(a []api.Q, i int) api.Q {
	if i < len(a) {
		return a[i]
	}
	return api.Q{}
}

// dot returns the inner product of a and x.
func dot(a, x []api.Q) api.Q {
	var total api.Q
	for i := range min(len(a), len(x)) {
		if frac.Sign(a[i]) != 0 && frac.Sign(x[i]) != 0 {
			total = frac.Add(total, frac.Mul(a[i], x[i]))
		}
	}
	return total
}

// sum returns the sum of the vectors, cut or filled up to n elements, times their weights.
func sum(weights []api.Q, l [][]api.Q, n int) []api.Q {
	total := make([]api.Q, n)
	for i, a := range l {
		for k := range min(n, len(a)) {
			if frac.Sign(weights[i]) != 0 && frac.Sign(a[k]) != 0 {
				total[k] = frac.Add(total[k], frac.Mul(weights[i], a[k]))
			}
		}
	}
	return total
}

// sign returns the sign of the first element of a that is not 0, or 0 if there is none.
func sign(a []api.Q) int {
	for _, x := range a {
		if s := frac.Sign(x); s != 0 {
			return s
		}
	}
	return 0
}

// minus returns a - b, which have equally many elements.
func minus(a, b []api.Q) []api.Q {
	c := make([]api.Q, len(a))
	for i := range a {
		c[i] = frac.Sub(a[i], b[i])
	}
	return c
}

// values returns the objective values of x.
func values(p api.LP, x []api.Q) []api.Q {
	var l []api.Q
	for _, objective := range p.Objectives {
		l = append(l, dot(objective, x))
	}
	return l
}

// full returns the objective values of x and then its negated elements.
func full(p api.LP, x []api.Q) []api.Q {
	l := values(p, x)
	for _, a := range x {
		l = append(l, frac.Neg(a))
	}
	return l
}

// hasNegative reports whether an element is negative.
func hasNegative(a []api.Q) bool {
	return slices.ContainsFunc(a, func(x api.Q) bool { return frac.Sign(x) < 0 })
}

// isPoint reports whether x has an element for each variable, satisfies all constraints and has no negative element.
func isPoint(p api.LP, x []api.Q) bool {
	for i, row := range p.Rows {
		if frac.Cmp(dot(row, x), p.Bounds[i]) > 0 {
			return false
		}
	}
	return len(x) == p.Vars && !hasNegative(x)
}

// wantV checks the elements of a result, their number, and that all of them are canonical.
func wantV(t *testing.T, what string, got, want []api.Q) {
	t.Helper()
	if show(got) != show(want) {
		t.Errorf("%s = (%s), want (%s)", what, show(got), show(want))
	}
	for _, x := range got {
		if !frac.IsCanonical(x) {
			t.Errorf("%s has the element %v, which is not canonical", what, x)
		}
	}
}

// disguise returns x in a form that is not canonical: with its parts multiplied by a factor, unless that is 0, and padded.
func disguise(x api.Q, factor int64) api.Q {
	if factor == 0 {
		return api.Q{Num: padded(x.Num), Den: padded(x.Den)}
	}
	by, den := whole.FromInt64(factor), x.Den
	if whole.Sign(den) == 0 {
		den = whole.FromInt64(1)
	}
	return api.Q{Num: padded(whole.Mul(x.Num, by)), Den: padded(whole.Mul(den, by))}
}

// padded returns a with a zero word at its end and foreign words beyond it; 0 becomes negative.
func padded(a api.Z) api.Z {
	words := append(slices.Clone(a.W), 0, 7, 9)
	return api.Z{Neg: a.Neg || len(a.W) == 0, W: words[:len(a.W)+1]}
}

// disguises are the factors from which formV chooses; a manner says with which of them it begins.
var disguises = []int64{-1, 30, 0, -6}

// formV returns a with elements that are not canonical, and with foreign elements in the memory beyond its end.
func formV(a []api.Q, manner int) []api.Q {
	b := append(slices.Clone(a), v("-3 5/7")...)[:len(a)]
	for i, x := range a {
		b[i] = disguise(x, disguises[(manner+i)%len(disguises)])
	}
	return b
}

// formP does so with all vectors of a program, and puts foreign vectors into the memory beyond the ends of their lists.
func formP(p api.LP, manner int) api.LP {
	form := func(l [][]api.Q) [][]api.Q {
		b := append(slices.Clone(l), m("8; 9;")...)[:len(l)]
		for i, a := range l {
			b[i] = formV(a, manner+i)
		}
		return b
	}
	return api.LP{Vars: p.Vars, Objectives: form(p.Objectives), Rows: form(p.Rows), Bounds: formV(p.Bounds, manner+1)}
}

// forms returns a program itself and copies with elements that are not canonical.
func forms(p api.LP) []api.LP {
	l := []api.LP{p}
	for manner := range disguises {
		l = append(l, formP(p, manner))
	}
	return l
}

// generator makes the same numbers in every run.
func generator(seed uint64) *rand.Rand { return rand.New(rand.NewPCG(7, seed)) }

// randomQ returns 0, a small integer, a fraction, or rarely a number of several words.
func randomQ(g *rand.Rand) api.Q {
	switch kind := g.IntN(30); {
	case kind < 9:
		return api.Q{}
	case kind < 23:
		return frac.FromInt64(g.Int64N(7) - 3)
	case kind < 29:
		x, _ := frac.New(g.Int64N(31)-15, 1+g.Int64N(9))
		return x
	}
	x, _ := frac.Div(frac.FromInteger(api.Z{W: []uint32{g.Uint32(), g.Uint32(), 1}}), frac.FromInt64(-1-g.Int64N(1<<40)))
	return x
}

func randomV(g *rand.Rand, n int) []api.Q {
	var a []api.Q
	for range n {
		a = append(a, randomQ(g))
	}
	return a
}

// ints returns n integers from least to most.
func ints(g *rand.Rand, n int, least, most int64) []api.Q {
	var a []api.Q
	for range n {
		a = append(a, frac.FromInt64(least+g.Int64N(most-least+1)))
	}
	return a
}

// randomP returns a valid program with vectors of all lengths.
func randomP(g *rand.Rand) api.LP {
	p := api.LP{Vars: g.IntN(6)}
	for range 1 + g.IntN(api.MaxObjectives) {
		p.Objectives = append(p.Objectives, randomV(g, g.IntN(p.Vars+1)))
	}
	for range g.IntN(7) {
		p.Rows, p.Bounds = append(p.Rows, randomV(g, g.IntN(p.Vars+1))), append(p.Bounds, randomQ(g))
	}
	return p
}

// tied returns a program with small integers, so that many points have equal values and many bases have the same solution.
func tied(g *rand.Rand) api.LP {
	p := api.LP{Vars: 1 + g.IntN(4)}
	for range 1 + g.IntN(3) {
		p.Objectives = append(p.Objectives, ints(g, g.IntN(p.Vars+1), -1, 1))
	}
	for range 1 + g.IntN(5) {
		p.Rows, p.Bounds = append(p.Rows, ints(g, 1+g.IntN(p.Vars), -1, 1)), append(p.Bounds, ints(g, 1, -1, 1)[0])
	}
	return p
}
