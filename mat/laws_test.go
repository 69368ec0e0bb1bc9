package mat_test

import (
	"testing"

	"pylon/api"
	"pylon/frac"
	"pylon/mat"
	"pylon/vec"
)

// trimmed returns the canonical matrix a without the zeros that make no difference to Equal.
func trimmed(a [][]api.Q) [][]api.Q {
	var l [][]api.Q
	for _, row := range a {
		for len(row) > 0 && sameQ(row[len(row)-1], api.Q{}) {
			row = row[:len(row)-1]
		}
		l = append(l, row)
	}
	for len(l) > 0 && len(l[len(l)-1]) == 0 {
		l = l[:len(l)-1]
	}
	return l
}

// A law says that two results of one computation are equal.
type law struct {
	name        string
	left, right [][]api.Q
}

func wantLaws(t *testing.T, names string, laws []law) {
	t.Helper()
	for _, l := range laws {
		wantM(t, l.name+" for "+names, trimmed(l.left), trimmed(l.right))
		if !mat.Equal(l.left, l.right) {
			t.Errorf("%s for %s: Equal(%s, %s) = false", l.name, names, text(l.left), text(l.right))
		}
	}
}

func TestP43Multiplication(t *testing.T) {
	g := generator(43)
	for range 800 {
		a, b, c := randomForm(g, random(g, 4)), randomForm(g, random(g, 4)), randomForm(g, random(g, 4))
		k := odd(randomQ(g), g.IntN(manners))
		wantLaws(t, text(a)+", "+text(b)+" and "+text(c), []law{
			{"(a b) c = a (b c)", mat.Mul(mat.Mul(a, b), c), mat.Mul(a, mat.Mul(b, c))},
			{"a (b + c) = a b + a c", mat.Mul(a, mat.Add(b, c)), mat.Add(mat.Mul(a, b), mat.Mul(a, c))},
			{"(a + b) c = a c + b c", mat.Mul(mat.Add(a, b), c), mat.Add(mat.Mul(a, c), mat.Mul(b, c))},
			{"(k a) b = k (a b)", mat.Mul(mat.Scale(k, a), b), mat.Scale(k, mat.Mul(a, b))},
			{"a (k b) = k (a b)", mat.Mul(a, mat.Scale(k, b)), mat.Scale(k, mat.Mul(a, b))},
			{"1 a = a", mat.Mul(mat.Identity(4), a), mat.Scale(q("1"), a)},
			{"a 1 = a", mat.Mul(a, mat.Identity(4)), mat.Scale(q("1"), a)},
			{"a 0 = 0", mat.Mul(a, nil), nil},
			{"0 a = 0", mat.Mul(nil, a), nil},
			{"a [b c] = [(a b) (a c)]", mat.Mul(a, mat.Concat(mat.Resize(b, 5, 5), c)), mat.Concat(mat.Mul(a, mat.Resize(b, 5, 5)), mat.Mul(a, c))},
		})
	}
}

func TestP43Addition(t *testing.T) {
	g := generator(431)
	for range 800 {
		a, b, c := randomForm(g, random(g, 4)), randomForm(g, random(g, 4)), randomForm(g, random(g, 4))
		k, l := odd(randomQ(g), g.IntN(manners)), odd(randomQ(g), g.IntN(manners))
		wantLaws(t, text(a)+", "+text(b)+" and "+text(c), []law{
			{"a + b = b + a", mat.Add(a, b), mat.Add(b, a)},
			{"(a + b) + c = a + (b + c)", mat.Add(mat.Add(a, b), c), mat.Add(a, mat.Add(b, c))},
			{"a + 0 = 1 a", mat.Add(a, nil), mat.Scale(q("1"), a)},
			{"a + -1 a = 0", mat.Add(a, mat.Scale(q("-1"), a)), nil},
			{"k (a + b) = k a + k b", mat.Scale(k, mat.Add(a, b)), mat.Add(mat.Scale(k, a), mat.Scale(k, b))},
			{"(k + l) a = k a + l a", mat.Scale(frac.Add(k, l), a), mat.Add(mat.Scale(k, a), mat.Scale(l, a))},
			{"(k l) a = k (l a)", mat.Scale(frac.Mul(k, l), a), mat.Scale(k, mat.Scale(l, a))},
		})
	}
}

func TestP43Transposition(t *testing.T) {
	g := generator(432)
	for range 800 {
		a, b := randomForm(g, random(g, 5)), randomForm(g, random(g, 5))
		k := odd(randomQ(g), g.IntN(manners))
		wantLaws(t, text(a)+" and "+text(b), []law{
			{"the transpose of the transpose is a", mat.Transpose(mat.Transpose(a)), mat.Scale(q("1"), a)},
			{"the transpose of a b", mat.Transpose(mat.Mul(a, b)), mat.Mul(mat.Transpose(b), mat.Transpose(a))},
			{"the transpose of a + b", mat.Transpose(mat.Add(a, b)), mat.Add(mat.Transpose(a), mat.Transpose(b))},
			{"the transpose of k a", mat.Transpose(mat.Scale(k, a)), mat.Scale(k, mat.Transpose(a))},
			{"the transpose of [a b]", mat.Transpose(mat.Concat(a, b)), append(mat.Transpose(a), mat.Transpose(b)...)},
			{"the transpose of 1", mat.Transpose(mat.Identity(5)), mat.Identity(5)},
		})
	}
}

func TestP43InnerProducts(t *testing.T) {
	g := generator(433)
	for range 1500 {
		a, b := randomForm(g, random(g, 5)), randomForm(g, random(g, 5))
		x, y := oddRow(randomV(g, 6), g.IntN(manners)), oddRow(randomV(g, 6), g.IntN(manners))
		names := " for " + text(a) + ", " + rowText(x) + " and " + rowText(y)
		wantQ(t, "(y, a x) = (y a, x)"+names, vec.Dot(y, mat.MulVec(a, x)), vec.Dot(mat.VecMul(y, a), x))
		wantLaws(t, text(a)+", "+text(b)+", "+rowText(x)+" and "+rowText(y), []law{
			{"(a b) x = a (b x)", [][]api.Q{mat.MulVec(mat.Mul(a, b), x)}, [][]api.Q{mat.MulVec(a, mat.MulVec(b, x))}},
			{"y (a b) = (y a) b", [][]api.Q{mat.VecMul(y, mat.Mul(a, b))}, [][]api.Q{mat.VecMul(mat.VecMul(y, a), b)}},
			{"y a is the transpose of a times y", [][]api.Q{mat.VecMul(y, a)}, [][]api.Q{mat.MulVec(mat.Transpose(a), y)}},
			{"a x is x times the transpose of a", [][]api.Q{mat.MulVec(a, x)}, [][]api.Q{mat.VecMul(x, mat.Transpose(a))}},
		})
		for i := range 6 {
			for k := range 6 {
				wantQ(t, "an element as an inner product"+names, vec.Dot(vec.Unit(6, i), mat.MulVec(a, vec.Unit(6, k))), mat.At(a, i, k))
			}
		}
	}
}
