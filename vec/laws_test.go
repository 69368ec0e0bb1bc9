package vec_test

import (
	"math/rand/v2"
	"testing"

	"pylon/api"
	"pylon/frac"
	"pylon/vec"
)

// trimmed returns a without the zeros at its end, which must be canonical.
func trimmed(a []api.Q) []api.Q {
	for len(a) > 0 && sameQ(a[len(a)-1], api.Q{}) {
		a = a[:len(a)-1]
	}
	return a
}

func TestP34VectorSpace(t *testing.T) {
	g := generator(34)
	for range 1500 {
		a, b, c := randomForm(g, random(g, 5)), randomForm(g, random(g, 5)), randomForm(g, random(g, 5))
		k, l := oddForms(randomQ(g))[g.IntN(manners+1)], oddForms(randomQ(g))[g.IntN(manners+1)]
		for _, law := range []struct {
			name        string
			left, right []api.Q
		}{
			{"a + b = b + a", vec.Add(a, b), vec.Add(b, a)},
			{"(a + b) + c = a + (b + c)", vec.Add(vec.Add(a, b), c), vec.Add(a, vec.Add(b, c))},
			{"a + 0 = 1 a", vec.Add(a, nil), vec.Scale(q("1"), a)},
			{"a - a = 0", vec.Sub(a, a), nil},
			{"a - b = a + -b", vec.Sub(a, b), vec.Add(a, vec.Scale(q("-1"), b))},
			{"(a - b) + b = 1 a", vec.Add(vec.Sub(a, b), b), vec.Scale(q("1"), a)},
			{"k (a + b) = k a + k b", vec.Scale(k, vec.Add(a, b)), vec.Add(vec.Scale(k, a), vec.Scale(k, b))},
			{"(k + l) a = k a + l a", vec.Scale(frac.Add(k, l), a), vec.Add(vec.Scale(k, a), vec.Scale(l, a))},
			{"(k l) a = k (l a)", vec.Scale(frac.Mul(k, l), a), vec.Scale(k, vec.Scale(l, a))},
			{"0 a = 0", vec.Scale(api.Q{}, a), nil},
			{"k 0 = 0", vec.Scale(k, nil), nil},
			{"AddScaled: k a + b", vec.AddScaled(k, a, b), vec.Add(vec.Scale(k, a), b)},
			{"AddScaled: k (k a + b) + c", vec.AddScaled(k, vec.AddScaled(k, a, b), c), vec.Sum(c, vec.Scale(k, b), vec.Scale(frac.Mul(k, k), a))},
			{"Sum: a + b + c", vec.Sum(a, b, c), vec.Add(vec.Add(a, b), c)},
			{"Sum in another order", vec.Sum(a, b, c), vec.Sum(c, a, b)},
		} {
			wantV(t, law.name+" for "+text(a)+", "+text(b)+", "+text(c), trimmed(law.left), trimmed(law.right))
		}
	}
}

func TestP34InnerProduct(t *testing.T) {
	g := generator(341)
	for range 1500 {
		a, b, c := randomForm(g, random(g, 5)), randomForm(g, random(g, 5)), randomForm(g, random(g, 5))
		k := oddForms(randomQ(g))[g.IntN(manners+1)]
		for _, law := range []struct {
			name        string
			left, right api.Q
		}{
			{"(a, b) = (b, a)", vec.Dot(a, b), vec.Dot(b, a)},
			{"(a + b, c) = (a, c) + (b, c)", vec.Dot(vec.Add(a, b), c), frac.Add(vec.Dot(a, c), vec.Dot(b, c))},
			{"(a, b + c) = (a, b) + (a, c)", vec.Dot(a, vec.Add(b, c)), frac.Add(vec.Dot(a, b), vec.Dot(a, c))},
			{"(k a, b) = k (a, b)", vec.Dot(vec.Scale(k, a), b), frac.Mul(k, vec.Dot(a, b))},
			{"(a, k b) = k (a, b)", vec.Dot(a, vec.Scale(k, b)), frac.Mul(k, vec.Dot(a, b))},
			{"(a - b, a + b) = (a, a) - (b, b)", vec.Dot(vec.Sub(a, b), vec.Add(a, b)), frac.Sub(vec.Dot(a, a), vec.Dot(b, b))},
			{"(a, 0) = 0", vec.Dot(a, nil), api.Q{}},
		} {
			wantQ(t, law.name+" for "+text(a)+", "+text(b)+", "+text(c), law.left, law.right)
		}
		for i, x := range a {
			wantQ(t, "the inner product with a unit vector", vec.Dot(vec.Unit(len(a)+1, i), a), frac.Canonical(x))
		}
		want := 1
		if vec.Equal(a, nil) {
			want = 0
		}
		if got := frac.Sign(vec.Dot(a, a)); got != want {
			t.Errorf("the inner product of %s with itself has the sign %d, want %d", text(a), got, want)
		}
	}
}

// neighbour returns a canonical vector that equals a, or differs little from it, or is any other.
func neighbour(g *rand.Rand, a []api.Q) []api.Q {
	b := vec.Resize(a, len(a)+g.IntN(3))
	switch g.IntN(4) {
	case 0:
		return random(g, 5)
	case 1:
		return b
	case 2:
		return trimmed(b)
	}
	if len(b) > 0 {
		i := g.IntN(len(b))
		b[i] = frac.Add(b[i], q("-1/18446744073709551616"))
	}
	return b
}

func TestP34Order(t *testing.T) {
	g := generator(342)
	for range 3000 {
		p := random(g, 5)
		r := neighbour(g, p)
		a, b, c := randomForm(g, p), randomForm(g, r), randomForm(g, neighbour(g, r))
		k := randomQ(g)
		for frac.Sign(k) <= 0 {
			k = frac.Add(frac.Abs(randomQ(g)), q("1/3"))
		}
		order := vec.Compare(a, b)
		for _, x := range []struct {
			name string
			got  int
		}{
			{"the order reversed", -vec.Compare(b, a)},
			{"the sign of a - b", vec.Sign(vec.Sub(a, b))},
			{"the order of a + c and b + c", vec.Compare(vec.Add(a, c), vec.Add(b, c))},
			{"the order of k a and k b", vec.Compare(vec.Scale(k, a), vec.Scale(k, b))},
			{"the order of -k b and -k a", vec.Compare(vec.Scale(frac.Neg(k), b), vec.Scale(frac.Neg(k), a))},
			{"the order of k a + c and k b + c", vec.Compare(vec.AddScaled(k, a, c), vec.AddScaled(k, b, c))},
		} {
			if x.got != order {
				t.Errorf("for %s, %s and %s: %s is %d, want %d", text(a), text(b), text(c), x.name, x.got, order)
			}
		}
		if got, want := vec.Equal(a, b), same(trimmed(p), trimmed(r)); got != want || got != (order == 0) {
			t.Errorf("Equal(%s, %s) = %t, Compare = %d", text(a), text(b), got, order)
		}
		if order <= 0 && vec.Compare(b, c) <= 0 && vec.Compare(a, c) > 0 {
			t.Errorf("%s, %s and %s have no order", text(a), text(b), text(c))
		}
	}
}

func TestP34FirstGreater(t *testing.T) {
	g := generator(343)
	for range 3000 {
		p := random(g, 5)
		r := neighbour(g, p)
		if g.IntN(2) == 0 {
			p, r = r, p
		}
		place, is := 0, false
		for i := max(len(p), len(r)) - 1; i >= 0; i-- {
			if frac.Sign(frac.Sub(at(p, i), at(r, i))) > 0 {
				place, is = i, true
			}
		}
		if got, found := vec.FirstGreater(randomForm(g, p), randomForm(g, r)); got != place || found != is {
			t.Errorf("FirstGreater(%s, %s) = %d, %t, want %d, %t", text(p), text(r), got, found, place, is)
		}
	}
}
