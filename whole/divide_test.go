package whole_test

import (
	"testing"

	"pylon/api"
	"pylon/whole"
)

// wantDivMod checks the quotient and the remainder of a by b for all representations of both.
func wantDivMod(t *testing.T, a, b, quotient, rest api.Z) {
	t.Helper()
	for _, x := range forms(a) {
		for _, y := range forms(b) {
			q, r, e := whole.DivMod(x, y)
			if !same(q, quotient) || !same(r, rest) || e != api.OK {
				t.Errorf("DivMod(%v, %v) = %v, %v, %d, want %v, %v, 0", x, y, q, r, e, quotient, rest)
			}
		}
	}
}

func TestP12Quotients(t *testing.T) {
	for _, x := range []struct{ a, b, q, r api.Z }{
		{plus(), plus(3), plus(), plus()},
		{plus(1), plus(3), plus(), plus(1)},
		{plus(6), plus(3), plus(2), plus()},
		{plus(7), plus(3), plus(2), plus(1)},
		{plus(7), plus(7), plus(1), plus()},
		{plus(9), plus(1), plus(9), plus()},
		{plus(5), plus(0, 0x100), plus(), plus(5)},
		{plus(0, 0, 1), plus(0, 1), plus(0, 1), plus()},
		{plus(0xffffffff, 0xffffffff), plus(0, 1), plus(0xffffffff), plus(0xffffffff)},
		{plus(5, 0, 0, 1), plus(7), plus(0x49249249, 0x92492492, 0x24924924), plus(6)},
		{plus(5, 0, 0, 1), plus(1), plus(5, 0, 0, 1), plus()},
		{plus(5, 0, 0, 1), plus(5, 0, 0, 1), plus(1), plus()},
		{plus(4, 0, 0, 1), plus(5, 0, 0, 1), plus(), plus(4, 0, 0, 1)},
		{plus(0xffffffff, 0xffffffff, 0xffffffff, 0xffffffff), plus(1, 0, 1), plus(0xffffffff, 0xffffffff), plus()},
		{plus(0xffffffff, 0xffffffff, 0xffffffff, 0xffffffff), plus(0xffffffff, 0xffffffff), plus(1, 0, 1), plus()},
		// Here the highest words suggest a quotient that is too large.
		{plus(3, 0, 0x80000000), plus(1, 0, 0x20000000), plus(3), plus(0, 0, 0x20000000)},
		{plus(0, 0, 0x80000000, 0x7fffffff), plus(1, 0, 0x80000000), plus(0xfffffffe), plus(2, 0xffffffff, 0x7fffffff)},
		{plus(0, 0, 0xfffffffe, 0xffffffff), plus(0, 0xffffffff, 0xffffffff), plus(0xffffffff), plus(0, 0xffffffff, 0xfffffffe)},
		{plus(0, 0x10000000, 0x946590d9, 0xd762422c, 0x9a224501, 0x4f272617, 0x9f),
			plus(0x40000001, 0x4674edea, 0x9f2c9cd0, 0xc), plus(0x3fffffff, 0x4674edea, 0x9f2c9cd0, 0xc), plus(1)},
		{plus(0, 0, 0, 0, 0, 0, 0x100), plus(0xcf3813d1, 0xd6947d55, 0x5b41f775, 0x67376856, 0x5a4653ca),
			plus(0xf63be5df, 0x2d5), plus(0xed41c7f1, 0xed24c06, 0x884aeeba, 0xcfca06c, 0x55096fc3)},
	} {
		wantDivMod(t, x.a, x.b, x.q, x.r)
		wantDivMod(t, x.a, whole.Neg(x.b), whole.Neg(x.q), x.r)
		if len(x.r.W) == 0 {
			wantDivMod(t, whole.Neg(x.a), x.b, whole.Neg(x.q), x.r)
			wantDivMod(t, whole.Neg(x.a), whole.Neg(x.b), x.q, x.r)
			continue
		}
		next, rest := whole.Add(x.q, plus(1)), whole.Sub(x.b, x.r)
		wantDivMod(t, whole.Neg(x.a), x.b, whole.Neg(next), rest)
		wantDivMod(t, whole.Neg(x.a), whole.Neg(x.b), next, rest)
	}
}

func TestP12QuotientSigns(t *testing.T) {
	for _, x := range []struct{ a, b, q, r int64 }{
		{7, 2, 3, 1}, {-7, 2, -4, 1}, {7, -2, -3, 1}, {-7, -2, 4, 1}, {6, 3, 2, 0}, {-6, 3, -2, 0}, {6, -3, -2, 0},
		{-6, -3, 2, 0}, {1, 5, 0, 1}, {-1, 5, -1, 4}, {1, -5, 0, 1}, {-1, -5, 1, 4}, {0, -5, 0, 0}, {-5, 1, -5, 0},
		{-1 << 63, -1, 0, 0},
	} {
		quotient := whole.FromInt64(x.q)
		if x.a == -1<<63 {
			quotient = plus(0, 0x80000000)
		}
		wantDivMod(t, whole.FromInt64(x.a), whole.FromInt64(x.b), quotient, whole.FromInt64(x.r))
	}
}

func TestP12ZeroDivisor(t *testing.T) {
	for _, a := range []api.Z{{}, minus(), plus(1), minus(7), plus(1, 2, 3), minus(0, 0, 0, 1)} {
		for _, b := range forms(plus()) {
			if q, r, e := whole.DivMod(a, b); !same(q, plus()) || !same(r, plus()) || e != api.ErrZero {
				t.Errorf("DivMod(%v, %v) = %v, %v, %d, want 0, 0, ErrZero", a, b, q, r, e)
			}
		}
	}
}

// wantDivision checks the definition of quotient and remainder.
func wantDivision(t *testing.T, a, b api.Z) {
	t.Helper()
	q, r, e := whole.DivMod(a, b)
	wantCanonical(t, "the quotient", q)
	wantCanonical(t, "the remainder", r)
	good := e == api.OK && !r.Neg && whole.Cmp(r, whole.Abs(b)) < 0 && len(q.W) <= len(a.W)+1
	for _, m := range moduli() {
		good = good && residue(a, m) == (residue(q, m)*residue(b, m)%m+residue(r, m))%m
	}
	if !good {
		t.Fatalf("DivMod(%v, %v) = %v, %v, %d", a, b, q, r, e)
	}
}

func TestP12Divisions(t *testing.T) {
	g := generator(12)
	for range 20000 {
		a, b := g.integer(6), g.integer(4)
		if g.next(10) == 0 {
			a, b = g.integer(50), g.integer(30)
		}
		if len(b.W) == 0 {
			continue
		}
		wantDivision(t, a, b)
		// Multiples and their neighbours have remainders at the ends of the range.
		multiple := whole.Mul(a, b)
		wantDivision(t, multiple, b)
		wantDivision(t, whole.Add(multiple, plus(1)), b)
		wantDivision(t, whole.Sub(multiple, plus(1)), b)
	}
}

// wantGCD checks the greatest common divisor for both orders, all signs and all representations.
func wantGCD(t *testing.T, a, b, want api.Z) {
	t.Helper()
	for _, x := range append(forms(a), forms(whole.Neg(a))...) {
		for _, y := range append(forms(b), forms(whole.Neg(b))...) {
			if got := whole.GCD(x, y); !same(got, want) {
				t.Errorf("GCD(%v, %v) = %v, want %v", x, y, got, want)
			}
			if got := whole.GCD(y, x); !same(got, want) {
				t.Errorf("GCD(%v, %v) = %v, want %v", y, x, got, want)
			}
		}
	}
}

func TestP12GCD(t *testing.T) {
	for _, x := range []struct{ a, b, d api.Z }{
		{plus(), plus(), plus()}, {plus(), plus(5), plus(5)}, {plus(), plus(1, 2, 3), plus(1, 2, 3)},
		{plus(1), plus(0, 0, 0, 1), plus(1)}, {plus(12), plus(18), plus(6)}, {plus(7), plus(7), plus(7)},
		{plus(12), plus(0, 0, 3), plus(12)}, {plus(0, 6), plus(0, 0, 0, 4), plus(0, 2)},
		{plus(0xffffffff, 0xffffffff), plus(0xffffffff), plus(0xffffffff)},
		{plus(1, 2, 3, 4), plus(1, 2, 3, 4), plus(1, 2, 3, 4)},
		{plus(0, 0x80000000), plus(0, 0, 0x80000000), plus(0, 0x80000000)},
		{plus(0, 0, 1), plus(0xffffffff, 0xffffffff), plus(1)},
	} {
		wantGCD(t, x.a, x.b, x.d)
	}
}

func TestP12GCDSmall(t *testing.T) {
	for a := int64(-40); a <= 40; a++ {
		for b := int64(-40); b <= 40; b++ {
			want := max(a, -a, b, -b)
			for want > 0 && (a%want != 0 || b%want != 0) {
				want--
			}
			if got := whole.GCD(whole.FromInt64(a), whole.FromInt64(b)); !same(got, whole.FromInt64(want)) {
				t.Errorf("GCD(%d, %d) = %v, want %d", a, b, got, want)
			}
		}
	}
}

// power returns b to the n-th power.
func power(b api.Z, n int) api.Z {
	p := whole.FromInt64(1)
	for range n {
		p = whole.Mul(p, b)
	}
	return p
}

func TestP12GCDLong(t *testing.T) {
	// Neighbours in the Fibonacci sequence are coprime and take the most steps of Euclid's algorithm.
	x, y := whole.FromInt64(1), whole.FromInt64(1)
	for n := range 700 {
		x, y = y, whole.Add(x, y)
		factor := whole.FromInt64(int64(n)*1000003 + 1)
		if n%7 == 0 {
			factor = power(factor, 5)
		}
		if got := whole.GCD(whole.Mul(x, factor), whole.Mul(y, factor)); !same(got, factor) {
			t.Fatalf("GCD of multiples of Fibonacci numbers = %v, want %v", got, factor)
		}
	}
	// The greatest common divisor of products of primes is known.
	g := generator(122)
	primes := []int64{2, 3, 5, 7, 65537, 4294967291, 9223372036854775783}
	for range 300 {
		a, b, want := whole.FromInt64(1), whole.FromInt64(-1), whole.FromInt64(1)
		for _, prime := range primes {
			m, n := int(g.next(12)), int(g.next(12))
			p := whole.FromInt64(prime)
			a, b, want = whole.Mul(a, power(p, m)), whole.Mul(b, power(p, n)), whole.Mul(want, power(p, min(m, n)))
		}
		wantGCD(t, a, b, want)
	}
}

func TestP12Memory(t *testing.T) {
	l := []api.Z{
		{}, minus(), plus(0), plus(1), minus(1), plus(6), minus(10, 0), plus(0xffffffff), plus(5, 6), minus(0, 0, 1), plus(1, 2, 3, 4),
		minus(1, 2, 3, 4, 0, 0), plus(0, 0, 6, 0), plus(9, 8, 7, 6, 5, 4, 3), minus(3, 0, 0x80000000),
	}
	for _, a := range l {
		for _, b := range l {
			wantApart(t, "DivMod", a, b, func(a, b api.Z) []api.Z {
				q, r, _ := whole.DivMod(a, b)
				return []api.Z{q, r}
			})
			wantApart(t, "DivMod", a, b, func(a, b api.Z) []api.Z {
				q, r, _ := whole.DivMod(a, b)
				return []api.Z{r, q}
			})
			wantApart(t, "GCD", a, b, func(a, b api.Z) []api.Z { return []api.Z{whole.GCD(a, b)} })
		}
		if whole.Sign(a) != 0 {
			q, r, e := whole.DivMod(a, a)
			wantZ(t, "a / a", q, plus(1))
			wantZ(t, "the remainder of a / a", r, plus())
			if e != api.OK {
				t.Errorf("DivMod(%v, %v) returned error %d", a, a, e)
			}
		}
		wantZ(t, "GCD(a, a)", whole.GCD(a, a), whole.Abs(a))
	}
}
