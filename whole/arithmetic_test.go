package whole_test

import (
	"cmp"
	"math"
	"testing"

	"pylon/api"
	"pylon/whole"
)

func TestP11Int64(t *testing.T) {
	for _, x := range []struct {
		n int64
		a api.Z
	}{
		{0, plus()}, {1, plus(1)}, {-1, minus(1)}, {math.MaxUint32, plus(0xffffffff)}, {1 << 32, plus(0, 1)},
		{-1 << 32, minus(0, 1)}, {1 << 62, plus(0, 0x40000000)}, {math.MaxInt64 - 1, plus(0xfffffffe, 0x7fffffff)},
		{math.MaxInt64, plus(0xffffffff, 0x7fffffff)}, {math.MinInt64 + 1, minus(0xffffffff, 0x7fffffff)},
		{math.MinInt64, minus(0, 0x80000000)},
	} {
		wantZ(t, "FromInt64", whole.FromInt64(x.n), x.a)
		for _, a := range forms(x.a) {
			if n, is := whole.Int64(a); n != x.n || !is {
				t.Errorf("Int64(%v) = %d, %t, want %d, true", a, n, is, x.n)
			}
		}
	}
	for _, x := range []api.Z{
		plus(0, 0x80000000), minus(1, 0x80000000), plus(0xffffffff, 0xffffffff), minus(0xffffffff, 0xffffffff),
		plus(0, 0, 1), minus(0, 0, 1), plus(5, 0, 1), minus(0, 0x80000000, 1), plus(0, 0, 0, 0, 7),
	} {
		for _, a := range forms(x) {
			if n, is := whole.Int64(a); n != 0 || is {
				t.Errorf("Int64(%v) = %d, %t, want 0, false", a, n, is)
			}
		}
	}
}

func TestP11IsCanonical(t *testing.T) {
	for _, a := range []api.Z{
		{}, plus([]uint32{}...), plus(1), minus(1), plus(0, 1), minus(0, 0, 7), plus(5, 0xffffffff), plus(1, 0, 0, 1),
	} {
		if !whole.IsCanonical(a) {
			t.Errorf("IsCanonical(%v) = false", a)
		}
	}
	for _, a := range []api.Z{
		minus(), minus([]uint32{}...), plus(0), minus(0), plus(1, 0), minus(1, 0), plus(0, 1, 0), plus(0, 0), minus(9, 9, 0, 0),
	} {
		if whole.IsCanonical(a) {
			t.Errorf("IsCanonical(%v) = true", a)
		}
	}
}

func TestP11Sums(t *testing.T) {
	for _, x := range []struct{ a, b, sum, less, times api.Z }{
		{plus(), plus(), plus(), plus(), plus()},
		{plus(), plus(1), plus(1), minus(1), plus()},
		{minus(1), plus(), minus(1), minus(1), plus()},
		{plus(2), plus(3), plus(5), minus(1), plus(6)},
		{minus(2), plus(3), plus(1), minus(5), minus(6)},
		{plus(2), minus(3), minus(1), plus(5), minus(6)},
		{minus(2), minus(3), minus(5), plus(1), plus(6)},
		{plus(7), plus(7), plus(14), plus(), plus(49)},
		{minus(7), plus(7), plus(), minus(14), minus(49)},
		{minus(7), minus(7), minus(14), plus(), plus(49)},
		{plus(0xffffffff), plus(1), plus(0, 1), plus(0xfffffffe), plus(0xffffffff)},
		{plus(0, 1), minus(1), plus(0xffffffff), plus(1, 1), minus(0, 1)},
		{plus(0xffffffff, 0xffffffff, 0xffffffff), plus(1), plus(0, 0, 0, 1),
			plus(0xfffffffe, 0xffffffff, 0xffffffff), plus(0xffffffff, 0xffffffff, 0xffffffff)},
		{plus(0, 0, 0, 1), minus(1), plus(0xffffffff, 0xffffffff, 0xffffffff), plus(1, 0, 0, 1), minus(0, 0, 0, 1)},
		{minus(0, 0, 0, 1), plus(1), minus(0xffffffff, 0xffffffff, 0xffffffff), minus(1, 0, 0, 1), minus(0, 0, 0, 1)},
		{minus(0xffffffff, 0xffffffff, 0xffffffff), minus(1), minus(0, 0, 0, 1),
			minus(0xfffffffe, 0xffffffff, 0xffffffff), plus(0xffffffff, 0xffffffff, 0xffffffff)},
		{plus(0xffffffff, 0xffffffff), plus(0xffffffff, 0xffffffff), plus(0xfffffffe, 0xffffffff, 1), plus(),
			plus(1, 0, 0xfffffffe, 0xffffffff)},
		{plus(0xffffffff, 0xffffffff, 0xffffffff), plus(0xffffffff), plus(0xfffffffe, 0, 0, 1),
			plus(0, 0xffffffff, 0xffffffff), plus(1, 0xffffffff, 0xffffffff, 0xfffffffe)},
		{plus(0, 0, 0, 0, 1), minus(0, 0, 0, 0, 1), plus(), plus(0, 0, 0, 0, 2), minus(0, 0, 0, 0, 0, 0, 0, 0, 1)},
		{plus(5, 1), minus(0, 1), plus(5), plus(5, 2), minus(0, 5, 1)},
		{plus(0x76543210, 0xfedcba98, 0x9abcdef0, 0x12345678), minus(0x89abcdef, 0x1234567, 0x76543210, 0xfedcba98),
			minus(0x13579bdf, 0x2468acf, 0xdb97531f, 0xeca8641f), plus(0xffffffff, 0xffffffff, 0x11111100, 0x11111111, 1),
			minus(0xe5618cf0, 0x2236d88f, 0x60ec6a52, 0xaa6c8761, 0xe234949a, 0x213d0003, 0xd77d7423, 0x121fa00a)},
		{minus(0, 0x80000000), minus(0, 0x80000000), minus(0, 0, 1), plus(), plus(0, 0, 0, 0x40000000)},
		{plus(7, 0, 0, 0, 0, 1), plus(0xffffffff, 0xffffffff), plus(6, 0, 1, 0, 0, 1),
			plus(8, 0, 0xffffffff, 0xffffffff, 0xffffffff), plus(0xfffffff9, 0xffffffff, 6, 0, 0, 0xffffffff, 0xffffffff)},
	} {
		for _, a := range forms(x.a) {
			for _, b := range forms(x.b) {
				wantZ(t, "Add", whole.Add(a, b), x.sum)
				wantZ(t, "Add", whole.Add(b, a), x.sum)
				wantZ(t, "Sub", whole.Sub(a, b), x.less)
				wantZ(t, "Mul", whole.Mul(a, b), x.times)
				wantZ(t, "Mul", whole.Mul(b, a), x.times)
			}
		}
	}
}

func TestP11Int64Values(t *testing.T) {
	var l []int64
	for n := int64(-20); n <= 20; n++ {
		l = append(l, n)
	}
	for i := 8; i <= 29; i++ {
		l = append(l, 1<<i, 1-1<<i, 3<<i+1)
	}
	for _, m := range l {
		for _, n := range l {
			a, b := whole.FromInt64(m), whole.FromInt64(n)
			for _, x := range []struct {
				what string
				got  api.Z
				want int64
			}{{"Add", whole.Add(a, b), m + n}, {"Sub", whole.Sub(a, b), m - n}, {"Mul", whole.Mul(a, b), m * n}} {
				if v, is := whole.Int64(x.got); v != x.want || !is {
					t.Errorf("%s of %d and %d = %v, want %d", x.what, m, n, x.got, x.want)
				}
			}
			if got := whole.Cmp(a, b); got != cmp.Compare(m, n) {
				t.Errorf("Cmp(%d, %d) = %d", m, n, got)
			}
		}
	}
}

func TestP11LongValues(t *testing.T) {
	g := generator(11)
	for range 3000 {
		a, b := g.integer(3), g.integer(3)
		if g.next(4) == 0 {
			a, b = g.integer(40), g.integer(40)
		}
		sum, less, times := whole.Add(a, b), whole.Sub(a, b), whole.Mul(a, b)
		wantCanonical(t, "Add", sum)
		wantCanonical(t, "Sub", less)
		wantCanonical(t, "Mul", times)
		for _, m := range moduli() {
			x, y := residue(a, m), residue(b, m)
			if residue(sum, m) != (x+y)%m || residue(less, m) != (x+m-y)%m || residue(times, m) != x*y%m {
				t.Fatalf("of %v and %v: Add = %v, Sub = %v, Mul = %v", a, b, sum, less, times)
			}
		}
	}
}

func TestP11Signs(t *testing.T) {
	for _, x := range []struct {
		a, neg, abs api.Z
		sign        int
	}{
		{plus(), plus(), plus(), 0}, {plus(5), minus(5), plus(5), 1}, {minus(5), plus(5), plus(5), -1},
		{plus(0, 0, 1), minus(0, 0, 1), plus(0, 0, 1), 1}, {minus(0, 0x80000000), plus(0, 0x80000000), plus(0, 0x80000000), -1},
		{minus(1, 2, 3), plus(1, 2, 3), plus(1, 2, 3), -1},
	} {
		for _, a := range forms(x.a) {
			wantZ(t, "Neg", whole.Neg(a), x.neg)
			wantZ(t, "Abs", whole.Abs(a), x.abs)
			if got := whole.Sign(a); got != x.sign {
				t.Errorf("Sign(%v) = %d, want %d", a, got, x.sign)
			}
		}
	}
}

func TestP11Cmp(t *testing.T) {
	l := []api.Z{
		minus(0, 0, 0, 1), minus(0xffffffff, 0xffffffff, 0xffffffff), minus(0, 1, 1), minus(1, 0, 1), minus(0, 0, 1),
		minus(0, 2), minus(7, 1), minus(0, 1), minus(0xffffffff), minus(2), minus(1), plus(), plus(1), plus(2),
		plus(0xffffffff), plus(0, 1), plus(7, 1), plus(0, 2), plus(0, 0, 1), plus(9, 0, 1), plus(0, 1, 1), plus(5, 1, 1),
		plus(0, 0, 2), plus(0xffffffff, 0xffffffff, 0xffffffff), plus(0, 0, 0, 1),
	}
	for i, x := range l {
		for k, y := range l {
			for _, a := range forms(x) {
				for _, b := range forms(y) {
					if got := whole.Cmp(a, b); got != cmp.Compare(i, k) {
						t.Errorf("Cmp(%v, %v) = %d, want %d", a, b, got, cmp.Compare(i, k))
					}
				}
			}
		}
	}
}

func TestP11Memory(t *testing.T) {
	l := []api.Z{
		{}, minus(), plus(0), plus(1), minus(1), plus(0xffffffff), minus(3, 0), plus(5, 6), minus(0, 0, 1), plus(1, 2, 3, 4),
		minus(1, 2, 3, 4, 0, 0), plus(0xffffffff, 0xffffffff, 0xffffffff), plus(1, 2, 3, 4, 5, 6, 7),
	}
	for _, a := range l {
		for _, b := range l {
			wantApart(t, "Add", a, b, func(a, b api.Z) []api.Z { return []api.Z{whole.Add(a, b)} })
			wantApart(t, "Sub", a, b, func(a, b api.Z) []api.Z { return []api.Z{whole.Sub(a, b)} })
			wantApart(t, "Mul", a, b, func(a, b api.Z) []api.Z { return []api.Z{whole.Mul(a, b)} })
			wantApart(t, "Neg and Abs", a, b, func(a, b api.Z) []api.Z { return []api.Z{whole.Neg(a), whole.Abs(a)} })
			wantApart(t, "Sign, Cmp, Int64 and IsCanonical", a, b, func(a, b api.Z) []api.Z {
				whole.Int64(a)
				whole.IsCanonical(a)
				return []api.Z{whole.FromInt64(int64(whole.Sign(a))), whole.FromInt64(int64(whole.Cmp(a, b)))}
			})
		}
		// Both operands may be one and the same slice.
		sum, less, times := whole.Add(a, a), whole.Sub(a, a), whole.Mul(a, a)
		wantZ(t, "a - a", less, plus())
		wantZ(t, "a + a - a", whole.Sub(sum, a), whole.Add(a, plus()))
		for _, m := range moduli() {
			if r := residue(a, m); residue(times, m) != r*r%m {
				t.Errorf("Mul(%v, %v) = %v", a, a, times)
			}
		}
	}
	if a, b := whole.FromInt64(5), whole.FromInt64(5); len(a.W) == 1 {
		a.W[0] = 6
		wantZ(t, "FromInt64 of 5 after a change of an earlier result", b, plus(5))
		wantZ(t, "FromInt64 of 5 after a change of an earlier result", whole.FromInt64(5), plus(5))
	}
}
