package frac_test

import (
	"slices"
	"testing"

	"pylon/api"
	"pylon/frac"
	"pylon/whole"
)

// plus returns the positive integer with the given words, minus the negative one.
func plus(words ...uint32) api.Z  { return api.Z{W: words} }
func minus(words ...uint32) api.Z { return api.Z{Neg: true, W: words} }

// size returns |n|, also for the least int64.
func size(n int64) uint64 {
	if n < 0 {
		return -uint64(n)
	}
	return uint64(n)
}

// integer returns the canonical integer with the given sign and size.
func integer(neg bool, size uint64) api.Z {
	a := api.Z{Neg: neg && size > 0}
	for ; size > 0; size >>= 32 {
		a.W = append(a.W, uint32(size))
	}
	return a
}

// ratio returns num/den in canonical form, computed with machine words and thus without the package under test.
func ratio(num, den int64) api.Q {
	common, rest := size(num), size(den)
	for rest > 0 {
		common, rest = rest, common%rest
	}
	a := api.Q{Num: integer((num < 0) != (den < 0), size(num)/common)}
	if below := size(den) / common; below > 1 {
		a.Den = integer(false, below)
	}
	return a
}

// longRatio returns num/den, den > 0, in canonical form.
func longRatio(num, den api.Z) api.Q {
	common := whole.GCD(num, den)
	num, _, _ = whole.DivMod(num, common)
	den, _, _ = whole.DivMod(den, common)
	if isOne(den) {
		den = api.Z{}
	}
	return api.Q{Num: num, Den: den}
}

func isOne(a api.Z) bool { return sameZ(a, plus(1)) }

// below returns the denominator of a canonical rational, 1 for an integer.
func below(a api.Q) api.Z {
	if len(a.Den.W) == 0 {
		return plus(1)
	}
	return a.Den
}

// sameZ and same report whether two representations are equal, where an empty slice equals a nil one.
func sameZ(a, b api.Z) bool { return a.Neg == b.Neg && slices.Equal(a.W, b.W) }
func same(a, b api.Q) bool  { return sameZ(a.Num, b.Num) && sameZ(a.Den, b.Den) }

func wantZ(t *testing.T, what string, got, want api.Z) {
	t.Helper()
	if !sameZ(got, want) {
		t.Errorf("%s = %v, want %v", what, got, want)
	}
}

func wantQ(t *testing.T, what string, got, want api.Q) {
	t.Helper()
	if !same(got, want) {
		t.Errorf("%s = %v, want %v", what, got, want)
	}
}

// isTrimmed reports whether an integer is canonical.
func isTrimmed(a api.Z) bool {
	if n := len(a.W); n > 0 {
		return a.W[n-1] != 0
	}
	return !a.Neg
}

func wantCanonical(t *testing.T, what string, a api.Q) {
	t.Helper()
	ok := isTrimmed(a.Num) && isTrimmed(a.Den) && !a.Den.Neg
	if ok && len(a.Den.W) > 0 {
		ok = !isOne(a.Den) && isOne(whole.GCD(a.Num, a.Den))
	}
	if !ok {
		t.Errorf("%s = %v, which is not canonical", what, a)
	}
}

// padded returns a with zero words at its end.
func padded(a api.Z, zeros int) api.Z {
	return api.Z{Neg: a.Neg, W: append(slices.Clone(a.W), make([]uint32, zeros)...)}
}

// forms returns representations of the canonical rational a, all but the first of them not canonical.
func forms(a api.Q) []api.Q {
	l := []api.Q{a, {Num: padded(a.Num, 1), Den: a.Den}, {Num: padded(a.Num, 2), Den: padded(a.Den, 3)}, {Num: a.Num, Den: padded(a.Den, 1)}}
	for _, k := range []api.Z{minus(1), plus(2), minus(3), plus(0, 1), minus(6, 0, 0x80000000)} {
		num, den := whole.Mul(a.Num, k), whole.Mul(below(a), k)
		l = append(l, api.Q{Num: num, Den: den}, api.Q{Num: padded(num, 2), Den: padded(den, 1)})
	}
	if len(a.Den.W) == 0 {
		for _, den := range []api.Z{minus(), minus(0), minus(0, 0), plus(0, 0, 0), plus(1), plus(1, 0)} {
			l = append(l, api.Q{Num: a.Num, Den: den}, api.Q{Num: padded(a.Num, 1), Den: den})
		}
	}
	if len(a.Num.W) == 0 {
		for _, x := range slices.Clone(l) {
			l = append(l, api.Q{Num: api.Z{Neg: true, W: x.Num.W}, Den: x.Den})
		}
	}
	return l
}

// someForms returns a few of the forms, for tests with many values.
func someForms(a api.Q) []api.Q {
	l := forms(a)
	return []api.Q{a, l[5], l[len(l)-1]}
}

// generator makes the same numbers in every run.
type generator uint64

func (g *generator) next(n uint64) uint64 {
	*g ^= *g << 13
	*g ^= *g >> 7
	*g ^= *g << 17
	return uint64(*g) * 0x9e3779b97f4a7c15 >> 20 % n
}

// integer returns a canonical integer of at most the given number of words, many of which are extreme.
func (g *generator) integer(most int) api.Z {
	a := api.Z{Neg: g.next(2) == 0, W: make([]uint32, g.next(uint64(most)+1))}
	for i := range a.W {
		switch g.next(4) {
		case 0:
			a.W[i] = ^uint32(0) - uint32(g.next(2))
		case 1:
			a.W[i] = uint32(g.next(2)) << 31
		default:
			a.W[i] = uint32(g.next(1 << 32))
		}
	}
	for len(a.W) > 0 && a.W[len(a.W)-1] == 0 {
		a.W = a.W[:len(a.W)-1]
	}
	a.Neg = a.Neg && len(a.W) > 0
	return a
}

// rational returns a canonical rational of at most the given number of words in each part; some have small parts.
func (g *generator) rational(most int) api.Q {
	num, den := g.integer(most), whole.Abs(g.integer(most))
	switch g.next(4) {
	case 0:
		num, den = integer(g.next(2) == 0, g.next(60)), integer(false, 1+g.next(60))
	case 1:
		den = integer(false, 1+g.next(3))
	}
	if len(den.W) == 0 {
		den = plus(1)
	}
	return longRatio(num, den)
}

// quotient returns a/b, which has to exist.
func quotient(t *testing.T, a, b api.Q) api.Q {
	t.Helper()
	c, e := frac.Div(a, b)
	if e != api.OK {
		t.Fatalf("Div(%v, %v) returned error %d", a, b, e)
	}
	return c
}

func parse(t *testing.T, s string) api.Q {
	t.Helper()
	a, e := frac.Parse(s)
	if e != api.OK {
		t.Fatalf("Parse(%q) returned error %d", s, e)
	}
	return a
}
