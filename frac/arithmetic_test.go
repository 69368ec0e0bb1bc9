package frac_test

import (
	"cmp"
	"math"
	"testing"

	"pylon/api"
	"pylon/frac"
	"pylon/whole"
)

func TestP21New(t *testing.T) {
	for _, x := range []struct {
		num, den int64
		want     api.Q
	}{
		{0, 1, api.Q{}}, {0, -1, api.Q{}}, {0, 5, api.Q{}}, {0, math.MinInt64, api.Q{}}, {0, math.MaxInt64, api.Q{}},
		{5, 1, api.Q{Num: plus(5)}}, {5, -1, api.Q{Num: minus(5)}}, {-5, -1, api.Q{Num: plus(5)}},
		{1, 2, api.Q{Num: plus(1), Den: plus(2)}}, {1, -2, api.Q{Num: minus(1), Den: plus(2)}},
		{6, -4, api.Q{Num: minus(3), Den: plus(2)}}, {-6, -4, api.Q{Num: plus(3), Den: plus(2)}},
		{4, 2, api.Q{Num: plus(2)}}, {-4, 2, api.Q{Num: minus(2)}}, {9, -9, api.Q{Num: minus(1)}},
		{1 << 40, 1 << 42, api.Q{Num: plus(1), Den: plus(4)}}, {3, 1 << 33, api.Q{Num: plus(3), Den: plus(0, 2)}},
		{math.MaxInt64, 1, api.Q{Num: plus(0xffffffff, 0x7fffffff)}},
		{math.MaxInt64, -1, api.Q{Num: minus(0xffffffff, 0x7fffffff)}},
		{math.MaxInt64, math.MaxInt64, api.Q{Num: plus(1)}},
		{math.MaxInt64, 7, api.Q{Num: plus(0x49249249, 0x12492492)}},
		{1, math.MaxInt64, api.Q{Num: plus(1), Den: plus(0xffffffff, 0x7fffffff)}},
		{-7, math.MaxInt64, api.Q{Num: minus(1), Den: plus(0x49249249, 0x12492492)}},
		{math.MinInt64, 1, api.Q{Num: minus(0, 0x80000000)}},
		{math.MinInt64, -1, api.Q{Num: plus(0, 0x80000000)}},
		{math.MinInt64, math.MinInt64, api.Q{Num: plus(1)}},
		{math.MinInt64, 6, api.Q{Num: minus(0, 0x40000000), Den: plus(3)}},
		{1, math.MinInt64, api.Q{Num: minus(1), Den: plus(0, 0x80000000)}},
		{-12, math.MinInt64, api.Q{Num: plus(3), Den: plus(0, 0x20000000)}},
		{math.MinInt64, math.MaxInt64, api.Q{Num: minus(0, 0x80000000), Den: plus(0xffffffff, 0x7fffffff)}},
		{math.MaxInt64, math.MinInt64, api.Q{Num: minus(0xffffffff, 0x7fffffff), Den: plus(0, 0x80000000)}},
		{math.MinInt64 + 1, math.MaxInt64, api.Q{Num: minus(1)}},
	} {
		got, e := frac.New(x.num, x.den)
		wantQ(t, "New", got, x.want)
		if e != api.OK {
			t.Errorf("New(%d, %d) returned error %d", x.num, x.den, e)
		}
	}
	for _, num := range []int64{0, 1, -1, 6, math.MaxInt64, math.MinInt64} {
		if got, e := frac.New(num, 0); !same(got, api.Q{}) || e != api.ErrZero {
			t.Errorf("New(%d, 0) = %v, %d, want 0, ErrZero", num, got, e)
		}
	}
}

func TestP21NewValues(t *testing.T) {
	for num := int64(-40); num <= 40; num++ {
		for den := int64(-40); den <= 40; den++ {
			if den == 0 {
				continue
			}
			if got, e := frac.New(num, den); !same(got, ratio(num, den)) || e != api.OK {
				t.Errorf("New(%d, %d) = %v, %d", num, den, got, e)
			}
		}
	}
}

func TestP21Integers(t *testing.T) {
	for _, n := range []int64{0, 1, -1, 2, -10, 1 << 32, -1 << 32, 1<<32 - 1, math.MaxInt64, math.MinInt64, math.MinInt64 + 1} {
		wantQ(t, "FromInt64", frac.FromInt64(n), ratio(n, 1))
	}
	for _, a := range []api.Z{plus(), plus(1), minus(1), plus(0, 1), minus(0, 0, 7), plus(1, 2, 3, 4, 5), minus(0xffffffff, 0xffffffff, 0xffffffff)} {
		for zeros := range 3 {
			wantQ(t, "FromInteger", frac.FromInteger(padded(a, zeros)), api.Q{Num: a})
		}
	}
	for _, zero := range []api.Z{minus(), plus(0), minus(0), minus(0, 0, 0)} {
		wantQ(t, "FromInteger", frac.FromInteger(zero), api.Q{})
	}
}

// values returns canonical rationals in increasing order.
func values() []api.Q {
	return []api.Q{
		{Num: minus(0, 0, 0, 1)}, {Num: minus(1, 0, 0, 1), Den: plus(2)}, {Num: minus(0, 0, 1)}, {Num: minus(0, 0x80000000)},
		{Num: minus(0, 1)}, ratio(-7, 2), ratio(-10, 3), ratio(-3, 1), ratio(-2, 1), ratio(-3, 2), ratio(-1, 1), ratio(-2, 3), ratio(-1, 2),
		ratio(-1, 3), {Num: minus(1), Den: plus(0, 1)}, {Num: minus(1), Den: plus(1, 0, 0, 1)}, {}, {Num: plus(1), Den: plus(1, 2, 3, 4)},
		{Num: plus(1), Den: plus(0xffffffff)}, ratio(1, 100), ratio(1, 3), ratio(1, 2), ratio(2, 3),
		{Num: plus(0xfffffffe, 0xffffffff), Den: plus(0xffffffff, 0xffffffff)}, ratio(1, 1),
		{Num: plus(1, 0, 1), Den: plus(0, 0, 1)}, ratio(3, 2), ratio(2, 1), ratio(3, 1), ratio(22, 7), ratio(355, 1), {Num: plus(0xffffffff)},
		{Num: plus(0, 1)}, {Num: plus(1, 2), Den: plus(2)}, {Num: plus(0, 0, 1)}, {Num: plus(1, 0, 0, 1), Den: plus(3)}, {Num: plus(0, 0, 0, 1)},
	}
}

func TestP21Canonical(t *testing.T) {
	for _, a := range values() {
		for i, x := range forms(a) {
			wantQ(t, "Canonical", frac.Canonical(x), a)
			if got := frac.IsCanonical(x); got != (i == 0) {
				t.Errorf("IsCanonical(%v) = %t", x, got)
			}
		}
	}
	for _, a := range []api.Q{
		{Num: plus([]uint32{}...), Den: plus([]uint32{}...)}, {Num: plus(2), Den: plus([]uint32{}...)}, {Num: minus(2), Den: plus(3)},
		{Num: plus(1), Den: plus(2)}, {Num: plus(0, 1), Den: plus(3)}, {Num: plus(3), Den: plus(0, 1)}, {Num: plus(1), Den: plus(1, 1)},
		{Num: minus(1), Den: plus(1, 0, 1)},
	} {
		if !frac.IsCanonical(a) {
			t.Errorf("IsCanonical(%v) = false", a)
		}
	}
	for _, a := range []api.Q{
		{Num: minus()}, {Num: plus(0)}, {Den: minus()}, {Den: plus(0)}, {Num: plus(1), Den: minus()}, {Num: plus(1), Den: plus(0)},
		{Num: plus(1), Den: plus(1)}, {Den: plus(1)}, {Den: plus(2)}, {Den: minus(1)}, {Den: minus(2)}, {Num: plus(1), Den: minus(1)},
		{Num: plus(1), Den: minus(2)}, {Num: minus(1), Den: minus(2)}, {Num: plus(2), Den: plus(4)}, {Num: plus(4), Den: plus(2)},
		{Num: minus(15), Den: plus(35)}, {Num: plus(1, 0), Den: plus(2)}, {Num: plus(1), Den: plus(2, 0)}, {Num: plus(0), Den: plus(2)},
		{Num: plus(0, 1), Den: plus(2)}, {Num: plus(2), Den: plus(0, 1)}, {Num: plus(0, 0, 1), Den: plus(0, 1)}, {Num: plus(1), Den: plus(1, 0)},
	} {
		if frac.IsCanonical(a) {
			t.Errorf("IsCanonical(%v) = true", a)
		}
	}
}

// wantResults checks the four operations on two operands.
func wantResults(t *testing.T, a, b, sum, less, times, over api.Q) {
	t.Helper()
	wantQ(t, "Add", frac.Add(a, b), sum)
	wantQ(t, "Add", frac.Add(b, a), sum)
	wantQ(t, "Sub", frac.Sub(a, b), less)
	wantQ(t, "Mul", frac.Mul(a, b), times)
	wantQ(t, "Mul", frac.Mul(b, a), times)
	got, e := frac.Div(a, b)
	want := api.OK
	if whole.Sign(b.Num) == 0 {
		want = api.ErrZero
	}
	wantQ(t, "Div", got, over)
	if e != want {
		t.Errorf("Div(%v, %v) returned error %d, want %d", a, b, e, want)
	}
}

func TestP21Operations(t *testing.T) {
	for _, x := range []struct{ a, b, sum, less, times, over api.Q }{
		{api.Q{}, api.Q{}, api.Q{}, api.Q{}, api.Q{}, api.Q{}},
		{ratio(5, 3), api.Q{}, ratio(5, 3), ratio(5, 3), api.Q{}, api.Q{}},
		{ratio(-5, 1), api.Q{}, ratio(-5, 1), ratio(-5, 1), api.Q{}, api.Q{}},
		{api.Q{}, ratio(-5, 3), ratio(-5, 3), ratio(5, 3), api.Q{}, api.Q{}},
		{ratio(2, 1), ratio(3, 1), ratio(5, 1), ratio(-1, 1), ratio(6, 1), ratio(2, 3)},
		{ratio(-6, 1), ratio(3, 1), ratio(-3, 1), ratio(-9, 1), ratio(-18, 1), ratio(-2, 1)},
		{ratio(7, 1), ratio(-7, 1), api.Q{}, ratio(14, 1), ratio(-49, 1), ratio(-1, 1)},
		{ratio(1, 2), ratio(1, 2), ratio(1, 1), api.Q{}, ratio(1, 4), ratio(1, 1)},
		{ratio(1, 2), ratio(1, 3), ratio(5, 6), ratio(1, 6), ratio(1, 6), ratio(3, 2)},
		{ratio(1, 6), ratio(1, 3), ratio(1, 2), ratio(-1, 6), ratio(1, 18), ratio(1, 2)},
		{ratio(5, 6), ratio(1, 6), ratio(1, 1), ratio(2, 3), ratio(5, 36), ratio(5, 1)},
		{ratio(-1, 2), ratio(1, 3), ratio(-1, 6), ratio(-5, 6), ratio(-1, 6), ratio(-3, 2)},
		{ratio(1, 2), ratio(-1, 3), ratio(1, 6), ratio(5, 6), ratio(-1, 6), ratio(-3, 2)},
		{ratio(-1, 2), ratio(-1, 3), ratio(-5, 6), ratio(-1, 6), ratio(1, 6), ratio(3, 2)},
		{ratio(3, 2), ratio(2, 3), ratio(13, 6), ratio(5, 6), ratio(1, 1), ratio(9, 4)},
		{ratio(4, 1), ratio(-3, 4), ratio(13, 4), ratio(19, 4), ratio(-3, 1), ratio(-16, 3)},
		{ratio(math.MaxInt64, 1), ratio(1, 1), api.Q{Num: plus(0, 0x80000000)}, ratio(math.MaxInt64-1, 1), ratio(math.MaxInt64, 1), ratio(math.MaxInt64, 1)},
		{ratio(math.MinInt64, 1), ratio(-1, 1), api.Q{Num: minus(1, 0x80000000)}, ratio(math.MinInt64+1, 1),
			api.Q{Num: plus(0, 0x80000000)}, api.Q{Num: plus(0, 0x80000000)}},
		{ratio(math.MinInt64, 1), ratio(math.MinInt64, 1), api.Q{Num: minus(0, 0, 1)}, api.Q{}, api.Q{Num: plus(0, 0, 0, 0x40000000)}, ratio(1, 1)},
		{ratio(1, 1<<40), ratio(1, 1<<41), ratio(3, 1<<41), ratio(1, 1<<41), api.Q{Num: plus(1), Den: plus(0, 0, 1<<17)}, ratio(2, 1)},
		{api.Q{Num: plus(0, 0, 0, 1)}, api.Q{Num: plus(1), Den: plus(0, 0, 0, 1)}, api.Q{Num: plus(1, 0, 0, 0, 0, 0, 1), Den: plus(0, 0, 0, 1)},
			api.Q{Num: plus(0xffffffff, 0xffffffff, 0xffffffff, 0xffffffff, 0xffffffff, 0xffffffff), Den: plus(0, 0, 0, 1)}, ratio(1, 1),
			api.Q{Num: plus(0, 0, 0, 0, 0, 0, 1)}},
		{api.Q{Num: plus(1), Den: plus(0xffffffff)}, api.Q{Num: plus(1), Den: plus(1, 1)}, api.Q{Num: plus(0, 2), Den: plus(0xffffffff, 0xffffffff)},
			api.Q{Num: plus(2), Den: plus(0xffffffff, 0xffffffff)}, api.Q{Num: plus(1), Den: plus(0xffffffff, 0xffffffff)}, api.Q{Num: plus(1, 1), Den: plus(0xffffffff)}},
	} {
		for _, a := range forms(x.a) {
			for _, b := range forms(x.b) {
				wantResults(t, a, b, x.sum, x.less, x.times, x.over)
			}
		}
	}
}

func TestP21SmallOperands(t *testing.T) {
	for a := int64(-7); a <= 7; a++ {
		for b := int64(1); b <= 8; b++ {
			for c := int64(-7); c <= 7; c++ {
				for d := int64(1); d <= 8; d++ {
					var over api.Q
					if c != 0 {
						over = ratio(a*d, b*c)
					}
					// As given, the operands often have common factors or a denominator of 1.
					x, y := api.Q{Num: ratio(a, 1).Num, Den: ratio(b, 1).Num}, api.Q{Num: ratio(-c, 1).Num, Den: ratio(-d, 1).Num}
					wantResults(t, x, y, ratio(a*d+c*b, b*d), ratio(a*d-c*b, b*d), ratio(a*c, b*d), over)
					wantResults(t, ratio(a, b), ratio(c, d), ratio(a*d+c*b, b*d), ratio(a*d-c*b, b*d), ratio(a*c, b*d), over)
				}
			}
		}
	}
}

// wantRatio checks that got is num/den, den not 0, in canonical form.
func wantRatio(t *testing.T, what string, got api.Q, num, den api.Z) {
	t.Helper()
	wantCanonical(t, what, got)
	if !sameZ(whole.Mul(got.Num, den), whole.Mul(num, below(got))) {
		t.Errorf("%s = %v, want %v/%v", what, got, num, den)
	}
}

func TestP21LongOperands(t *testing.T) {
	g := generator(21)
	for range 1500 {
		p, q := g.rational(1+int(g.next(12))), g.rational(1+int(g.next(12)))
		left, right := whole.Mul(p.Num, below(q)), whole.Mul(q.Num, below(p))
		product := whole.Mul(below(p), below(q))
		for _, a := range someForms(p) {
			for _, b := range someForms(q) {
				wantRatio(t, "Add", frac.Add(a, b), whole.Add(left, right), product)
				wantRatio(t, "Sub", frac.Sub(a, b), whole.Sub(left, right), product)
				wantRatio(t, "Mul", frac.Mul(a, b), whole.Mul(p.Num, q.Num), product)
				if len(q.Num.W) > 0 {
					wantRatio(t, "Div", quotient(t, a, b), left, right)
				}
				if got := frac.Cmp(a, b); got != whole.Cmp(left, right) {
					t.Errorf("Cmp(%v, %v) = %d", a, b, got)
				}
			}
			wantQ(t, "Canonical", frac.Canonical(a), p)
		}
	}
}

func TestP21DivisionByZero(t *testing.T) {
	for _, a := range append(values(), operands()...) {
		for _, zero := range forms(api.Q{}) {
			if got, e := frac.Div(a, zero); !same(got, api.Q{}) || e != api.ErrZero {
				t.Errorf("Div(%v, %v) = %v, %d, want 0, ErrZero", a, zero, got, e)
			}
		}
	}
}

func TestP21Signs(t *testing.T) {
	for _, x := range []struct {
		a, neg, abs api.Q
		sign        int
	}{
		{api.Q{}, api.Q{}, api.Q{}, 0},
		{ratio(5, 1), ratio(-5, 1), ratio(5, 1), 1}, {ratio(-5, 1), ratio(5, 1), ratio(5, 1), -1},
		{ratio(3, 2), ratio(-3, 2), ratio(3, 2), 1}, {ratio(-3, 2), ratio(3, 2), ratio(3, 2), -1},
		{ratio(math.MinInt64, 1), api.Q{Num: plus(0, 0x80000000)}, api.Q{Num: plus(0, 0x80000000)}, -1},
		{ratio(1, math.MinInt64), api.Q{Num: plus(1), Den: plus(0, 0x80000000)}, api.Q{Num: plus(1), Den: plus(0, 0x80000000)}, -1},
		{api.Q{Num: plus(0, 0, 1), Den: plus(3)}, api.Q{Num: minus(0, 0, 1), Den: plus(3)}, api.Q{Num: plus(0, 0, 1), Den: plus(3)}, 1},
		{api.Q{Num: minus(1), Den: plus(0, 0, 1)}, api.Q{Num: plus(1), Den: plus(0, 0, 1)}, api.Q{Num: plus(1), Den: plus(0, 0, 1)}, -1},
	} {
		for _, a := range forms(x.a) {
			wantQ(t, "Neg", frac.Neg(a), x.neg)
			wantQ(t, "Abs", frac.Abs(a), x.abs)
			if got := frac.Sign(a); got != x.sign {
				t.Errorf("Sign(%v) = %d, want %d", a, got, x.sign)
			}
		}
	}
}

func TestP21Order(t *testing.T) {
	l := values()
	for i, x := range l {
		for k, y := range l {
			less, more := l[min(i, k)], l[max(i, k)]
			for _, a := range forms(x) {
				for _, b := range someForms(y) {
					if got := frac.Cmp(a, b); got != cmp.Compare(i, k) {
						t.Errorf("Cmp(%v, %v) = %d, want %d", a, b, got, cmp.Compare(i, k))
					}
					if got := frac.Equal(a, b); got != (i == k) {
						t.Errorf("Equal(%v, %v) = %t", a, b, got)
					}
					wantQ(t, "Min", frac.Min(a, b), less)
					wantQ(t, "Max", frac.Max(a, b), more)
				}
			}
		}
	}
}

func TestP21EqualForms(t *testing.T) {
	for _, x := range values() {
		for _, a := range forms(x) {
			for _, b := range forms(x) {
				if frac.Cmp(a, b) != 0 || !frac.Equal(a, b) {
					t.Errorf("%v and %v are not equal", a, b)
				}
				wantQ(t, "Min", frac.Min(a, b), x)
				wantQ(t, "Max", frac.Max(a, b), x)
			}
		}
	}
}
