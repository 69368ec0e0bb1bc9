package frac_test

import (
	"testing"

	"pylon/api"
	"pylon/frac"
)

func TestP24Laws(t *testing.T) {
	g := generator(24)
	for range 1500 {
		most := 1 + int(g.next(8))
		a, b, c := g.rational(most), g.rational(most), g.rational(most)
		one := ratio(1, 1)
		for _, law := range []struct {
			name        string
			left, right api.Q
		}{
			{"a + b = b + a", frac.Add(a, b), frac.Add(b, a)},
			{"a b = b a", frac.Mul(a, b), frac.Mul(b, a)},
			{"(a + b) + c = a + (b + c)", frac.Add(frac.Add(a, b), c), frac.Add(a, frac.Add(b, c))},
			{"(a b) c = a (b c)", frac.Mul(frac.Mul(a, b), c), frac.Mul(a, frac.Mul(b, c))},
			{"a (b + c) = a b + a c", frac.Mul(a, frac.Add(b, c)), frac.Add(frac.Mul(a, b), frac.Mul(a, c))},
			{"a + 0 = a", frac.Add(a, api.Q{}), a},
			{"a 1 = a", frac.Mul(a, one), a},
			{"a 0 = 0", frac.Mul(a, api.Q{}), api.Q{}},
			{"a + -a = 0", frac.Add(a, frac.Neg(a)), api.Q{}},
			{"a - b = a + -b", frac.Sub(a, b), frac.Add(a, frac.Neg(b))},
			{"(a - b) + b = a", frac.Add(frac.Sub(a, b), b), a},
			{"-(-a) = a", frac.Neg(frac.Neg(a)), a},
			{"|a b| = |a| |b|", frac.Abs(frac.Mul(a, b)), frac.Mul(frac.Abs(a), frac.Abs(b))},
			{"the lesser plus the greater = a + b", frac.Add(frac.Min(a, b), frac.Max(a, b)), frac.Add(a, b)},
		} {
			if !same(law.left, law.right) {
				t.Fatalf("%s fails for %v, %v and %v: %v, %v", law.name, a, b, c, law.left, law.right)
			}
			wantCanonical(t, law.name, law.left)
		}
		if frac.Sign(b) == 0 {
			continue
		}
		wantQ(t, "(a/b) b", frac.Mul(quotient(t, a, b), b), a)
		wantQ(t, "(a b)/b", quotient(t, frac.Mul(a, b), b), a)
		wantQ(t, "a/b", quotient(t, a, b), frac.Mul(a, quotient(t, one, b)))
		wantQ(t, "(b + a)/b", quotient(t, frac.Add(b, a), b), frac.Add(one, quotient(t, a, b)))
	}
}

func TestP24Order(t *testing.T) {
	g := generator(241)
	for range 3000 {
		most := 1 + int(g.next(8))
		a, b, c := g.rational(most), g.rational(most), g.rational(most)
		if g.next(4) == 0 {
			// Neighbours differ little, or not at all.
			b = frac.Add(a, api.Q{Num: integer(false, g.next(2)), Den: plus(0, 0, 0, 1)})
		}
		order := frac.Cmp(a, b)
		for _, x := range []struct {
			name string
			got  int
		}{
			{"the order reversed", -frac.Cmp(b, a)},
			{"the sign of a - b", frac.Sign(frac.Sub(a, b))},
			{"the order of a + c and b + c", frac.Cmp(frac.Add(a, c), frac.Add(b, c))},
			{"the order of -b and -a", frac.Cmp(frac.Neg(b), frac.Neg(a))},
			{"the order of a |c| and b |c|, times that of |c|", orderTimes(a, b, frac.Abs(c), order)},
			{"the order of a c and b c, times the sign of c", orderTimes(a, b, c, order)},
		} {
			if x.got != order {
				t.Errorf("for %v, %v and %v: %s is %d, want %d", a, b, c, x.name, x.got, order)
			}
		}
		if frac.Equal(a, b) != (order == 0) || frac.Equal(a, b) != same(a, b) {
			t.Errorf("Equal(%v, %v) = %t", a, b, frac.Equal(a, b))
		}
		if order <= 0 && frac.Cmp(b, c) <= 0 && frac.Cmp(a, c) > 0 {
			t.Errorf("%v, %v and %v have no order", a, b, c)
		}
	}
}

// orderTimes returns the order of a c and b c, reversed for a negative c. For c = 0 it returns the given order.
func orderTimes(a, b, c api.Q, order int) int {
	if frac.Sign(c) == 0 {
		return order
	}
	return frac.Sign(c) * frac.Cmp(frac.Mul(a, c), frac.Mul(b, c))
}

func TestP24TextInverse(t *testing.T) {
	g := generator(242)
	for range 1000 {
		a := g.rational(1 + int(g.next(60)))
		s := frac.Format(a)
		if got := parse(t, s); !same(got, a) {
			t.Fatalf("Parse of Format(%v) = %v", a, got)
		}
		if got := frac.Format(parse(t, s)); got != s {
			t.Fatalf("Format of Parse(%q) = %q", s, got)
		}
	}
}
