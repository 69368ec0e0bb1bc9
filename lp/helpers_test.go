package lp_test

import (
	"fmt"
	"math"
	"math/rand/v2"
	"slices"
	"strings"
	"testing"

	"pylon/api"
	"pylon/frac"
	"pylon/whole"
)

// q returns the rational with the given text, and v the vector with the given elements, separated by spaces.
func q(s string) api.Q {
	x, e := frac.Parse(s)
	if e != api.OK {
		panic(s + " is not a rational")
	}
	return x
}
func v(s string) []api.Q {
	var a []api.Q
	for word := range strings.FieldsSeq(s) {
		a = append(a, q(word))
	}
	return a
}

// m returns the vectors with the given elements, each of which ends with a semicolon: ";" is one vector without elements.
func m(s string) [][]api.Q {
	var l [][]api.Q
	for rest := s; rest != ""; {
		word, more, _ := strings.Cut(rest, ";")
		l, rest = append(l, v(word)), strings.TrimSpace(more)
	}
	return l
}

// program returns the program with the given number of variables, objectives, constraints and right-hand sides.
func program(vars int, objectives, rows, bounds string) api.LP {
	return api.LP{Vars: vars, Objectives: m(objectives), Rows: m(rows), Bounds: v(bounds)}
}

// sample is the program of the chapter's example with a second objective.
func sample() api.LP { return program(2, "3 5; 1 -1;", "1; 0 2; 3 2;", "4 12 18") }

// show, list and text are the inverses of v, m and program, up to spaces.
func show(a []api.Q) string {
	var words []string
	for _, x := range a {
		words = append(words, frac.Format(x))
	}
	return strings.Join(words, " ")
}
func list(l [][]api.Q) string {
	var s strings.Builder
	for _, a := range l {
		s.WriteString(show(a) + ";")
	}
	return s.String()
}
func text(p api.LP) string {
	return fmt.Sprintf("%d variables, max %s subject to %s <= %s", p.Vars, list(p.Objectives), list(p.Rows), show(p.Bounds))
}

// trimmed returns p without zeros at the ends of its objectives and constraints, which have no meaning.
func trimmed(p api.LP) api.LP {
	trim := func(l [][]api.Q) [][]api.Q {
		l = slices.Clone(l)
		for i, a := range l {
			for len(a) > 0 && frac.Sign(a[len(a)-1]) == 0 {
				a = a[:len(a)-1]
			}
			l[i] = a
		}
		return l
	}
	p.Objectives, p.Rows = trim(p.Objectives), trim(p.Rows)
	return p
}

// wantCanonical checks that all the given rationals are canonical.
func wantCanonical(t *testing.T, what string, l ...[]api.Q) {
	t.Helper()
	for _, x := range slices.Concat(l...) {
		if !frac.IsCanonical(x) {
			t.Errorf("%s has the element %v, which is not canonical", what, x)
		}
	}
}

// wantV checks the elements of a result, their number, and that all of them are canonical.
func wantV(t *testing.T, what string, got, want []api.Q) {
	t.Helper()
	if show(got) != show(want) {
		t.Errorf("%s = (%s), want (%s)", what, show(got), show(want))
	}
	wantCanonical(t, what, got)
}

// wantP checks a program that is a result, except for zeros at the ends of its vectors, and that its rationals are canonical.
func wantP(t *testing.T, what string, got, want api.LP, e api.Errno) {
	t.Helper()
	if text(trimmed(got)) != text(trimmed(want)) || e != api.OK {
		t.Errorf("%s = (%s) with error %d, want (%s)", what, text(got), e, text(want))
	}
	for _, a := range slices.Concat(got.Objectives, got.Rows) {
		if len(a) > got.Vars {
			t.Errorf("%s = (%s) has a vector that is longer than %d", what, text(got), got.Vars)
		}
	}
	wantCanonical(t, what, slices.Concat(got.Objectives, got.Rows, [][]api.Q{got.Bounds})...)
}

// wantArg checks that a call has returned ErrArg and no program.
func wantArg(t *testing.T, what string, got api.LP, e api.Errno) {
	t.Helper()
	if e != api.ErrArg || got.Vars != 0 || len(got.Objectives)+len(got.Rows)+len(got.Bounds) > 0 {
		t.Errorf("%s = (%s) with error %d, want no program and error %d", what, text(got), e, api.ErrArg)
	}
}

// disguise returns x in a form that is not canonical: with its parts multiplied by a factor, unless that is 0, and padded.
func disguise(x api.Q, factor int64) api.Q {
	if factor == 0 {
		return api.Q{Num: padded(x.Num), Den: padded(x.Den)}
	}
	by, den := whole.FromInt64(factor), x.Den
	if whole.Sign(den) == 0 {
		den = whole.FromInt64(1)
	}
	return api.Q{Num: padded(whole.Mul(x.Num, by)), Den: padded(whole.Mul(den, by))}
}

// padded returns a with a zero word at its end and foreign words beyond it; 0 becomes negative.
func padded(a api.Z) api.Z {
	words := append(slices.Clone(a.W), 0, 7, 9)
	return api.Z{Neg: a.Neg || len(a.W) == 0, W: words[:len(a.W)+1]}
}

// disguises are the factors from which formV chooses; a manner says with which of them it begins.
var disguises = []int64{-1, 30, 0, -6}

// formV returns a with elements that are not canonical, and with foreign elements in the memory beyond its end.
func formV(a []api.Q, manner int) []api.Q {
	b := append(slices.Clone(a), v("-3 5/7")...)[:len(a)]
	for i, x := range a {
		b[i] = disguise(x, disguises[(manner+i)%len(disguises)])
	}
	return b
}

// formP does so with all vectors of a program, and puts foreign vectors into the memory beyond the ends of their lists.
func formP(p api.LP, manner int) api.LP {
	form := func(l [][]api.Q) [][]api.Q {
		b := append(slices.Clone(l), m("8; 9;")...)[:len(l)]
		for i, a := range l {
			b[i] = formV(a, manner+i)
		}
		return b
	}
	return api.LP{Vars: p.Vars, Objectives: form(p.Objectives), Rows: form(p.Rows), Bounds: formV(p.Bounds, manner+1)}
}

// forms and formsV return a program or a vector itself and copies with elements that are not canonical.
func forms(p api.LP) []api.LP {
	l := []api.LP{p}
	for manner := range disguises {
		l = append(l, formP(p, manner))
	}
	return l
}
func formsV(a []api.Q) [][]api.Q {
	l := [][]api.Q{a}
	for manner := range disguises {
		l = append(l, formV(a, manner))
	}
	return l
}

// repeated returns n times the same vector.
func repeated(n int, s string) [][]api.Q { return slices.Repeat([][]api.Q{v(s)}, n) }

// largest returns a program at all limits: its constraint i says that the variable i, modulo their number, is at most i.
func largest() api.LP {
	p := api.LP{Vars: api.MaxCols}
	for i := range api.MaxObjectives {
		objective := make([]api.Q, api.MaxCols)
		objective[i], objective[api.MaxCols-1-i] = q("2"), frac.FromInt64(int64(i))
		p.Objectives = append(p.Objectives, objective)
	}
	for i := range api.MaxRows {
		row := make([]api.Q, api.MaxCols)
		row[i%api.MaxCols] = q("1")
		p.Rows, p.Bounds = append(p.Rows, row), append(p.Bounds, frac.FromInt64(int64(i)))
	}
	return p
}

// notValid returns programs with one flaw each.
func notValid() []api.LP {
	var l []api.LP
	for _, vars := range []int{-1, math.MinInt, api.MaxCols + 1, api.MaxRows, api.MaxRows + 1, math.MaxInt} {
		l = append(l, program(vars, "3 5;", "1; 0 2;", "4 12"), program(vars, ";", "", ""), program(vars, "; ;", "; ;", "1 1"))
	}
	for _, x := range []struct{ objectives, rows, bounds string }{
		{"", "1; 0 2;", "4 12"}, {"", "", ""},
		{"3 5; 1; 1; 1; 1;", "1; 0 2;", "4 12"}, {"; ; ; ; ;", "", ""}, {"1; 1; 1; 1; 1; 1; 1; 1;", "", ""},
		{"3 5;", "1; 0 2;", "4"}, {"3 5;", "1; 0 2;", ""}, {"3 5;", "1; 0 2;", "4 12 0"}, {"3 5;", "1; 0 2;", "4 12 18 1"}, {"3 5;", "", "4"}, {"3 5;", "1;", "1 0"},
		{"3 5 1;", "1; 0 2;", "4 12"}, {"3 5 0;", "1; 0 2;", "4 12"}, {"3 5; 1 2 3;", "1; 0 2;", "4 12"}, {"1; 1 2 3; 3 5;", "1; 0 2;", "4 12"}, {"1; 2; 3; 0 0 0;", "", ""},
		{"3 5;", "1 2 3; 0 2;", "4 12"}, {"3 5;", "1; 0 2 0;", "4 12"}, {"3 5;", "1; 0 0 0; 0 2;", "4 12 1"}, {";", "0 0 0 0 0;", "1"},
	} {
		l = append(l, program(2, x.objectives, x.rows, x.bounds))
	}
	l = append(l, program(1, "3 5;", "1; 2;", "4 12"), program(1, "3;", "1; 0 2;", "4 12"), program(0, "3;", "", ""), program(0, "0;", "", ""), program(0, ";", "0;", "1"), api.LP{})
	long := largest()
	long.Rows, long.Bounds = append(long.Rows, v("0")), append(long.Bounds, q("1"))
	many := api.LP{Vars: 2, Objectives: m("3 5;"), Rows: repeated(api.MaxRows+1, "1"), Bounds: make([]api.Q, api.MaxRows+1)}
	more := api.LP{Vars: 2, Objectives: m("3 5;"), Rows: repeated(2*api.MaxRows, ""), Bounds: make([]api.Q, 2*api.MaxRows)}
	return append(l, long, many, more)
}

// generator makes the same numbers in every run.
func generator(seed uint64) *rand.Rand { return rand.New(rand.NewPCG(6, seed)) }

// randomQ returns 0, a small integer, a fraction, or rarely a number of several words.
func randomQ(g *rand.Rand) api.Q {
	switch kind := g.IntN(20); {
	case kind < 6:
		return api.Q{}
	case kind < 14:
		return frac.FromInt64(g.Int64N(7) - 3)
	case kind < 19:
		x, _ := frac.New(g.Int64N(31)-15, 1+g.Int64N(9))
		return x
	}
	x, _ := frac.Div(frac.FromInteger(api.Z{W: []uint32{g.Uint32(), g.Uint32(), 1}}), frac.FromInt64(-1-g.Int64N(1<<40)))
	return x
}

func randomV(g *rand.Rand, n int) []api.Q {
	var a []api.Q
	for range n {
		a = append(a, randomQ(g))
	}
	return a
}

// positiveV returns a vector with no negative element.
func positiveV(g *rand.Rand, n int) []api.Q {
	a := randomV(g, n)
	for i, x := range a {
		a[i] = frac.Abs(x)
	}
	return a
}

// randomP returns a valid program with vectors of all lengths.
func randomP(g *rand.Rand) api.LP {
	p := api.LP{Vars: g.IntN(5)}
	for range 1 + g.IntN(api.MaxObjectives) {
		p.Objectives = append(p.Objectives, randomV(g, g.IntN(p.Vars+1)))
	}
	for range g.IntN(6) {
		p.Rows, p.Bounds = append(p.Rows, randomV(g, g.IntN(p.Vars+1))), append(p.Bounds, randomQ(g))
	}
	return p
}

// at returns the element of a at index i, which is 0 beyond the end.
func at(a []api.Q, i int) api.Q {
	if i < len(a) {
		return a[i]
	}
	return api.Q{}
}

// dot returns the inner product of a and x.
func dot(a, x []api.Q) api.Q {
	var total api.Q
	for i := range min(len(a), len(x)) {
		total = frac.Add(total, frac.Mul(a[i], x[i]))
	}
	return total
}

// padTo returns a with zeros at its end, so that it has n elements.
func padTo(a []api.Q, n int) []api.Q {
	b := slices.Clone(a)
	for len(b) < n {
		b = append(b, api.Q{})
	}
	return b
}
