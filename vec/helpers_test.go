package vec_test

import (
	"math/rand/v2"
	"slices"
	"strings"
	"testing"

	"pylon/api"
	"pylon/frac"
	"pylon/whole"
)

// q returns the rational with the given text. It is in canonical form.
func q(s string) api.Q {
	a, e := frac.Parse(s)
	if e != api.OK {
		panic("not a rational: " + s)
	}
	return a
}

// v returns the vector with the given elements, separated by spaces. They are in canonical form.
func v(s string) []api.Q {
	var l []api.Q
	for _, field := range strings.Fields(s) {
		l = append(l, q(field))
	}
	return l
}

// text is the inverse of v, for messages.
func text(a []api.Q) string {
	var l []string
	for _, x := range a {
		l = append(l, frac.Format(x))
	}
	return "(" + strings.Join(l, " ") + ")"
}

// same and sameQ report whether two representations are equal, where an empty slice equals a nil one.
func same(a, b []api.Q) bool { return slices.EqualFunc(a, b, sameQ) }
func sameQ(a, b api.Q) bool {
	return a.Num.Neg == b.Num.Neg && a.Den.Neg == b.Den.Neg && slices.Equal(a.Num.W, b.Num.W) && slices.Equal(a.Den.W, b.Den.W)
}

// wantV checks a result, its length and its form; want has to be canonical.
func wantV(t *testing.T, what string, got, want []api.Q) {
	t.Helper()
	if len(got) != len(want) {
		t.Fatalf("%s = %s, which has length %d, want %s with length %d", what, text(got), len(got), text(want), len(want))
	}
	for i := range got {
		if !sameQ(got[i], want[i]) {
			t.Fatalf("%s: element %d of %d is %v, want %v", what, i, len(got), got[i], want[i])
		}
	}
}

func wantQ(t *testing.T, what string, got, want api.Q) {
	t.Helper()
	if !sameQ(got, want) {
		t.Errorf("%s = %v, want %v", what, got, want)
	}
}

// guardedZ returns a copy of a with zero words at its end, and foreign words beyond it.
func guardedZ(a api.Z, zeros int) api.Z {
	words := append(slices.Clone(a.W), make([]uint32, zeros)...)
	n := len(words)
	return api.Z{Neg: a.Neg, W: append(words, 0xdead, 0, 7)[:n]}
}

// manners is the number of ways in which odd represents a rational.
const manners = 6

// odd returns a canonical rational in a form that is not canonical, in the given manner.
func odd(a api.Q, manner int) api.Q {
	factors := []int64{-1, 6, 0, -1 << 32, 0, -15}
	num, den := a.Num, a.Den
	if k := factors[manner]; k != 0 {
		if len(den.W) == 0 {
			den = whole.FromInt64(1)
		}
		num, den = whole.Mul(num, whole.FromInt64(k)), whole.Mul(den, whole.FromInt64(k))
	}
	b := api.Q{Num: guardedZ(num, manner%3), Den: guardedZ(den, manner/2)}
	if len(num.W) == 0 {
		// The sign of 0 has no meaning.
		b.Num.Neg = manner%2 == 0
	}
	if len(den.W) == 0 {
		b.Den.Neg = manner == 4
	}
	return b
}

// guarded returns a copy of a with foreign elements beyond its end.
func guarded(a []api.Q) []api.Q {
	return append(slices.Clone(a), q("-3"), q("5/7"), q("1000000000000000000000"))[:len(a)]
}

// forms returns representations of the canonical vector a. The first is a itself; the elements of the others are not canonical.
func forms(a []api.Q) [][]api.Q {
	l := [][]api.Q{a}
	for first := range manners {
		b := guarded(a)
		for i, x := range a {
			b[i] = odd(x, (first+i)%manners)
		}
		l = append(l, b)
	}
	if len(a) == 0 {
		l = append(l, nil, []api.Q{})
	}
	return l
}

// oddForms returns representations of the canonical rational a.
func oddForms(a api.Q) []api.Q {
	l := []api.Q{a}
	for manner := range manners {
		l = append(l, odd(a, manner))
	}
	return l
}

func generator(seed uint64) *rand.Rand { return rand.New(rand.NewPCG(3, seed)) }

// randomQ returns a canonical rational: often 0, often small, sometimes of several words.
func randomQ(g *rand.Rand) api.Q {
	switch g.IntN(8) {
	case 0, 1, 2:
		return api.Q{}
	case 3, 4:
		return frac.FromInt64(g.Int64N(7) - 3)
	case 5, 6:
		a, _ := frac.New(g.Int64N(41)-20, 1+g.Int64N(12))
		return a
	}
	words := func() []uint32 {
		l := make([]uint32, 1+g.IntN(4))
		for i := range l {
			l[i] = g.Uint32()
		}
		return l
	}
	return frac.Canonical(api.Q{Num: api.Z{Neg: g.IntN(2) == 0, W: words()}, Den: api.Z{W: words()}})
}

// random returns a canonical vector of at most the given length.
func random(g *rand.Rand, most int) []api.Q {
	a := make([]api.Q, g.IntN(most+1))
	for i := range a {
		a[i] = randomQ(g)
	}
	return a
}

// randomForm returns one of the representations of the canonical vector a.
func randomForm(g *rand.Rand, a []api.Q) []api.Q {
	l := forms(a)
	return l[g.IntN(len(l))]
}

// at returns the element of a at index i, 0 beyond the end.
func at(a []api.Q, i int) api.Q {
	if i < len(a) {
		return a[i]
	}
	return api.Q{}
}

// elementwise returns the results of f for all pairs of elements, in canonical form: what the package under test has to find.
func elementwise(a, b []api.Q, f func(x, y api.Q) api.Q) []api.Q {
	l := make([]api.Q, max(len(a), len(b)))
	for i := range l {
		l[i] = frac.Canonical(f(at(a, i), at(b, i)))
	}
	return l
}
