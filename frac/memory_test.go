package frac_test

import (
	"slices"
	"testing"

	"pylon/api"
	"pylon/frac"
)

// parts returns all integers of the rationals.
func parts(l ...api.Q) []api.Z {
	var all []api.Z
	for _, a := range l {
		all = append(all, a.Num, a.Den)
	}
	return all
}

// guardedZ returns a copy of a with foreign words beyond the end of W, and all words of that memory.
func guardedZ(a api.Z) (copied api.Z, memory []uint32) {
	memory = append(slices.Clone(a.W), 0xdead, 0xbeef, 0xffffffff, 1)
	return api.Z{Neg: a.Neg, W: memory[:len(a.W)]}, memory
}

// guarded is guardedZ for both parts of a.
func guarded(a api.Q) (copied api.Q, memory [][]uint32) {
	num, above := guardedZ(a.Num)
	den, below := guardedZ(a.Den)
	return api.Q{Num: num, Den: den}, [][]uint32{above, below}
}

func cloneAll(l [][]uint32) [][]uint32 {
	var all [][]uint32
	for _, words := range l {
		all = append(all, slices.Clone(words))
	}
	return all
}

// wantApart calls f and checks that it changes neither its arguments nor the memory behind them, and that its results
// share no memory with the arguments or with one another.
func wantApart(t *testing.T, what string, a, b api.Q, f func(a, b api.Q) []api.Z) {
	t.Helper()
	x, xs := guarded(a)
	y, ys := guarded(b)
	before := cloneAll(append(slices.Clone(xs), ys...))
	want := f(a, b)
	results := f(x, y)
	for i, z := range results {
		if !sameZ(z, want[i]) {
			t.Errorf("%s of %v and %v: integer %d of the results is %v or %v, depending on the memory behind", what, a, b, i, z, want[i])
		}
	}
	for i, z := range results {
		others := make([][]uint32, len(results))
		for k := range results {
			others[k] = results[k].W
		}
		others[i] = nil
		kept := cloneAll(others)
		for k := range z.W[:cap(z.W)] {
			z.W[:cap(z.W)][k] += 77
		}
		if !slices.EqualFunc(others, kept, slices.Equal) {
			t.Errorf("%s of %v and %v: integer %d of the results shares memory with another", what, a, b, i)
		}
	}
	if !slices.EqualFunc(append(xs, ys...), before, slices.Equal) {
		t.Errorf("%s of %v and %v changes its arguments or shares memory with them", what, a, b)
	}
	// What was written into the results must not come back.
	for i, z := range f(x, y) {
		if !sameZ(z, want[i]) {
			t.Errorf("%s of %v and %v: integer %d of the results is %v in a later call, want %v", what, a, b, i, z, want[i])
		}
	}
}

// operands returns rationals in all kinds of forms.
func operands() []api.Q {
	l := []api.Q{
		{}, {Num: minus()}, {Num: minus(0), Den: minus(0)}, {Num: plus(1), Den: minus()}, {Num: minus(7), Den: plus(0, 0)},
		{Num: plus(5), Den: plus(1)}, {Num: plus(5), Den: minus(1)}, {Num: plus(0), Den: minus(9, 0)},
		{Num: plus(1, 2, 3)}, {Num: minus(1, 2, 3, 0)}, {Num: plus(7), Den: plus(1, 2, 3)}, {Num: minus(9, 9, 9), Den: plus(5, 5, 5, 0)},
		{Num: minus(6, 0, 6), Den: minus(4, 0, 4)}, {Num: plus(0xffffffff, 0xffffffff), Den: minus(0, 0, 1)},
	}
	shared := []uint32{6, 6, 6}
	return append(l, ratio(1, 2), ratio(-22, 7), ratio(-1<<63, 3), api.Q{Num: api.Z{W: shared}, Den: api.Z{Neg: true, W: shared}})
}

func TestP21Memory(t *testing.T) {
	for _, a := range operands() {
		for _, b := range append(operands(), a) {
			wantApart(t, "Add", a, b, func(a, b api.Q) []api.Z { return parts(frac.Add(a, b)) })
			wantApart(t, "Sub", a, b, func(a, b api.Q) []api.Z { return parts(frac.Sub(a, b)) })
			wantApart(t, "Mul", a, b, func(a, b api.Q) []api.Z { return parts(frac.Mul(a, b)) })
			wantApart(t, "Div", a, b, func(a, b api.Q) []api.Z {
				c, _ := frac.Div(a, b)
				return parts(c)
			})
			wantApart(t, "Min and Max", a, b, func(a, b api.Q) []api.Z { return parts(frac.Min(a, b), frac.Max(a, b)) })
			wantApart(t, "Cmp and Equal", a, b, func(a, b api.Q) []api.Z {
				frac.Equal(a, b)
				return parts(ratio(int64(frac.Cmp(a, b)), 1))
			})
		}
		wantApart(t, "Canonical", a, api.Q{}, func(a, _ api.Q) []api.Z { return parts(frac.Canonical(a)) })
		wantApart(t, "FromInteger", a, api.Q{}, func(a, _ api.Q) []api.Z { return parts(frac.FromInteger(a.Num), frac.FromInteger(a.Den)) })
		wantApart(t, "Neg and Abs", a, api.Q{}, func(a, _ api.Q) []api.Z { return parts(frac.Neg(a), frac.Abs(a)) })
		wantApart(t, "Sign and IsCanonical", a, api.Q{}, func(a, _ api.Q) []api.Z {
			frac.IsCanonical(a)
			return parts(ratio(int64(frac.Sign(a)), 1))
		})
	}
}

func TestP21OperandTwice(t *testing.T) {
	for _, a := range operands() {
		c := frac.Canonical(a)
		wantQ(t, "a - a", frac.Sub(a, a), api.Q{})
		wantQ(t, "a + a", frac.Add(a, a), frac.Mul(a, ratio(2, 1)))
		wantQ(t, "a a", frac.Mul(a, a), frac.Mul(c, a))
		wantQ(t, "the lesser of a and a", frac.Min(a, a), c)
		wantQ(t, "the greater of a and a", frac.Max(a, a), c)
		if frac.Sign(a) != 0 {
			wantQ(t, "a/a", quotient(t, a, a), ratio(1, 1))
		}
		if frac.Cmp(a, a) != 0 || !frac.Equal(a, a) {
			t.Errorf("%v is not equal to itself", a)
		}
	}
}

func TestP21Conversions(t *testing.T) {
	none := api.Q{}
	wantApart(t, "New", none, none, func(_, _ api.Q) []api.Z {
		a, _ := frac.New(6, -4)
		b, _ := frac.New(6, -4)
		c, _ := frac.New(7, 7)
		d, _ := frac.New(5, 1)
		return parts(a, b, c, d)
	})
	wantApart(t, "FromInt64", none, none, func(_, _ api.Q) []api.Z {
		return parts(frac.FromInt64(0), frac.FromInt64(1), frac.FromInt64(1), frac.FromInt64(-1<<63))
	})
}

func TestP22Memory(t *testing.T) {
	for _, a := range operands() {
		wantApart(t, "Floor and Ceil", a, api.Q{}, func(a, _ api.Q) []api.Z { return []api.Z{frac.Floor(a), frac.Ceil(a)} })
	}
}

func TestP23Memory(t *testing.T) {
	for _, a := range operands() {
		wantApart(t, "Format", a, api.Q{}, func(a, _ api.Q) []api.Z { return parts(parse(t, frac.Format(a))) })
	}
	for _, s := range []string{"0", "5", "1/2", "-22/7", "-123456789012345678901234567890/1000000000000000000000000000001"} {
		wantApart(t, "Parse of "+s, api.Q{}, api.Q{}, func(_, _ api.Q) []api.Z { return parts(parse(t, s), parse(t, s)) })
	}
}
