package whole_test

import (
	"slices"
	"testing"

	"pylon/api"
	"pylon/whole"
)

// plus returns the positive integer with the given words, minus the negative one.
func plus(words ...uint32) api.Z  { return api.Z{W: words} }
func minus(words ...uint32) api.Z { return api.Z{Neg: true, W: words} }

// same reports whether two representations are equal, where an empty slice equals a nil one.
func same(a, b api.Z) bool {
	return a.Neg == b.Neg && slices.Equal(a.W, b.W)
}

func wantZ(t *testing.T, what string, got, want api.Z) {
	t.Helper()
	if !same(got, want) {
		t.Errorf("%s = %v, want %v", what, got, want)
	}
}

func wantCanonical(t *testing.T, what string, a api.Z) {
	t.Helper()
	if n := len(a.W); n == 0 && a.Neg || n > 0 && a.W[n-1] == 0 {
		t.Errorf("%s = %v, which is not canonical", what, a)
	}
}

// forms returns representations of a, all but the first of them not canonical.
func forms(a api.Z) []api.Z {
	l := []api.Z{a, {Neg: a.Neg, W: append(slices.Clone(a.W), 0)}, {Neg: a.Neg, W: append(slices.Clone(a.W), 0, 0, 0)}}
	if len(a.W) == 0 {
		for _, x := range slices.Clone(l) {
			l = append(l, api.Z{Neg: true, W: x.W})
		}
	}
	return l
}

// residue returns a modulo m, computed word by word and thus without the package under test.
func residue(a api.Z, m uint64) uint64 {
	var r uint64
	for _, word := range slices.Backward(a.W) {
		r = (r<<32 | uint64(word)) % m
	}
	if a.Neg && r > 0 {
		r = m - r
	}
	return r
}

// moduli are primes below 2^32. Integers that differ by less than their product differ in a residue.
func moduli() []uint64 {
	return []uint64{4294967291, 4294967279, 4294967231, 4294967197}
}

// generator makes the same numbers in every run.
type generator uint64

func (g *generator) next(n uint64) uint64 {
	*g ^= *g << 13
	*g ^= *g >> 7
	*g ^= *g << 17
	return uint64(*g) * 0x9e3779b97f4a7c15 >> 20 % n
}

// integer returns a canonical integer of at most the given number of words, many of which are extreme.
func (g *generator) integer(most int) api.Z {
	a := api.Z{Neg: g.next(2) == 0, W: make([]uint32, g.next(uint64(most)+1))}
	for i := range a.W {
		switch g.next(4) {
		case 0:
			a.W[i] = ^uint32(0) - uint32(g.next(2))
		case 1:
			a.W[i] = uint32(g.next(2)) << 31
		default:
			a.W[i] = uint32(g.next(1 << 32))
		}
	}
	for len(a.W) > 0 && a.W[len(a.W)-1] == 0 {
		a.W = a.W[:len(a.W)-1]
	}
	a.Neg = a.Neg && len(a.W) > 0
	return a
}

// guarded returns a copy of a with foreign words beyond the end of W, and all words of that memory.
func guarded(a api.Z) (copied api.Z, memory []uint32) {
	memory = append(slices.Clone(a.W), 0xdead, 0xbeef, 0xffffffff, 1)
	return api.Z{Neg: a.Neg, W: memory[:len(a.W)]}, memory
}

// wantApart calls f and checks that it changes neither its arguments nor the memory behind them, and that its results
// share no memory with the arguments or with one another.
func wantApart(t *testing.T, what string, a, b api.Z, f func(a, b api.Z) []api.Z) {
	t.Helper()
	x, xs := guarded(a)
	y, ys := guarded(b)
	xsBefore, ysBefore := slices.Clone(xs), slices.Clone(ys)
	want := f(a, b)
	results := f(x, y)
	for i, z := range results {
		if !same(z, want[i]) {
			t.Errorf("%s of %v and %v: result %d depends on words beyond the end", what, a, b, i)
		}
		for k := range z.W[:cap(z.W)] {
			z.W[:cap(z.W)][k] += 77
		}
		if i > 0 && !same(results[0], scribbled(want[0])) {
			t.Errorf("%s of %v and %v: results share memory", what, a, b)
		}
	}
	if !slices.Equal(xs, xsBefore) || !slices.Equal(ys, ysBefore) {
		t.Errorf("%s of %v and %v changes its arguments or shares memory with them", what, a, b)
	}
}

// scribbled returns a with the words that wantApart writes into a result.
func scribbled(a api.Z) api.Z {
	a.W = slices.Clone(a.W)
	for i := range a.W {
		a.W[i] += 77
	}
	return a
}

func parse(t *testing.T, s string) api.Z {
	t.Helper()
	a, e := whole.Parse(s)
	if e != api.OK {
		t.Fatalf("Parse(%q) returned error %d", s, e)
	}
	return a
}
