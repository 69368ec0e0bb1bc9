package whole_test

import (
	"testing"

	"pylon/api"
	"pylon/whole"
)

func TestP14Laws(t *testing.T) {
	g := generator(14)
	for range 2000 {
		most := 3 + int(g.next(12))
		a, b, c := g.integer(most), g.integer(most), g.integer(most)
		for _, law := range []struct {
			name        string
			left, right api.Z
		}{
			{"a + b = b + a", whole.Add(a, b), whole.Add(b, a)},
			{"a b = b a", whole.Mul(a, b), whole.Mul(b, a)},
			{"(a + b) + c = a + (b + c)", whole.Add(whole.Add(a, b), c), whole.Add(a, whole.Add(b, c))},
			{"(a b) c = a (b c)", whole.Mul(whole.Mul(a, b), c), whole.Mul(a, whole.Mul(b, c))},
			{"a (b + c) = a b + a c", whole.Mul(a, whole.Add(b, c)), whole.Add(whole.Mul(a, b), whole.Mul(a, c))},
			{"(a + b) - b = a", whole.Sub(whole.Add(a, b), b), a},
			{"a - b = a + -b", whole.Sub(a, b), whole.Add(a, whole.Neg(b))},
			{"a + 0 = a", whole.Add(a, api.Z{}), a},
			{"a 1 = a", whole.Mul(a, plus(1)), a},
		} {
			if !same(law.left, law.right) {
				t.Fatalf("%s fails for %v, %v and %v: %v, %v", law.name, a, b, c, law.left, law.right)
			}
			wantCanonical(t, law.name, law.left)
		}
	}
}

// divides reports whether d divides a.
func divides(d, a api.Z) bool {
	_, r, e := whole.DivMod(a, d)
	if e == api.ErrZero {
		return whole.Sign(a) == 0
	}
	return whole.Sign(r) == 0
}

func TestP14CommonDivisors(t *testing.T) {
	for a := int64(-24); a <= 24; a++ {
		for b := int64(-24); b <= 24; b++ {
			x, y := whole.FromInt64(a), whole.FromInt64(b)
			common := whole.GCD(x, y)
			for d := int64(-25); d <= 25; d++ {
				z := whole.FromInt64(d)
				if (divides(z, x) && divides(z, y)) != divides(z, common) {
					t.Errorf("%d is a common divisor of %d and %d, or divides GCD = %v, but not both", d, a, b, common)
				}
			}
		}
	}
	g := generator(141)
	for range 2000 {
		d, a, b := g.integer(5), g.integer(8), g.integer(8)
		x, y := whole.Mul(d, a), whole.Mul(d, b)
		if common := whole.GCD(x, y); !divides(d, common) || !divides(common, x) || !divides(common, y) {
			t.Fatalf("GCD(%v, %v) = %v, but %v divides both", x, y, common, d)
		}
	}
}

func TestP14TextInverse(t *testing.T) {
	g := generator(142)
	for range 1500 {
		a := g.integer(100)
		s := whole.Format(a)
		if got := parse(t, s); !same(got, a) {
			t.Fatalf("Parse of Format(%v) = %v", a, got)
		}
		if got := whole.Format(parse(t, s)); got != s {
			t.Fatalf("Format of Parse(%q) = %q", s, got)
		}
	}
}
