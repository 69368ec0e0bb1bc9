package vec_test

import (
	"slices"
	"testing"

	"pylon/api"
	"pylon/frac"
	"pylon/vec"
)

// The columns are a, b, k, a + b, a - b, k a, k a + b and the inner product of a and b.
var arithmetic = []struct{ a, b, k, sum, less, scaled, addScaled, dot string }{
	{"", "", "5", "", "", "", "", "0"},
	{"3", "4", "2", "7", "-1", "6", "10", "12"},
	{"1 2", "1/2", "3", "3/2 2", "1/2 2", "3 6", "7/2 6", "1/2"},
	{"1/2", "1 2", "3", "3/2 2", "-1/2 -2", "3/2", "5/2 2", "1/2"},
	{"1 2 3", "4 5", "-1/2", "5 7 3", "-3 -3 3", "-1/2 -1 -3/2", "7/2 4 -3/2", "14"},
	{"4 5", "1 2 3", "-1/2", "5 7 3", "3 3 -3", "-2 -5/2", "-1 -1/2 3", "14"},
	{"", "1 -2/3", "7", "1 -2/3", "-1 2/3", "", "1 -2/3", "0"},
	{"1 -2/3", "", "3/2", "1 -2/3", "1 -2/3", "3/2 -1", "3/2 -1", "0"},
	{"1 2 3", "-1 -2 -3", "1", "0 0 0", "2 4 6", "1 2 3", "0 0 0", "-14"},
	{"1 2 3", "1 2 3", "-1", "2 4 6", "0 0 0", "-1 -2 -3", "0 0 0", "14"},
	{"5 -1/2", "1/3 7", "0", "16/3 13/2", "14/3 -15/2", "0 0", "1/3 7", "-11/6"},
	{"5 -1/2 4", "1/3", "0", "16/3 -1/2 4", "14/3 -1/2 4", "0 0 0", "1/3 0 0", "5/3"},
	{"0 0", "0", "9", "0 0", "0 0", "0 0", "0 0", "0"},
	{"0", "0 0 0", "0", "0 0 0", "0 0 0", "0", "0 0 0", "0"},
	{"0 0 5 0", "0 3 0", "2/5", "0 3 5 0", "0 -3 5 0", "0 0 2 0", "0 3 2 0", "0"},
	{"1 0", "0 1 0 0", "-7", "1 1 0 0", "1 -1 0 0", "-7 0", "-7 1 0 0", "0"},
	{"1/6 1/6", "1/3 -1/6", "-2", "1/2 0", "-1/6 1/3", "-1/3 -1/3", "0 -1/2", "1/36"},
	{"-1/2 2 -3", "-2 1/2 1/3", "3", "-5/2 5/2 -8/3", "3/2 3/2 -10/3", "-3/2 6 -9", "-7/2 13/2 -26/3", "1"},
	{"18446744073709551616 1/18446744073709551616", "-1 18446744073709551616", "1/2",
		"18446744073709551615 340282366920938463463374607431768211457/18446744073709551616",
		"18446744073709551617 -340282366920938463463374607431768211455/18446744073709551616",
		"9223372036854775808 1/36893488147419103232",
		"9223372036854775807 680564733841876926926749214863536422913/36893488147419103232", "-18446744073709551615"},
}

func TestP31Values(t *testing.T) {
	for _, x := range arithmetic {
		for _, a := range forms(v(x.a)) {
			for _, k := range oddForms(q(x.k)) {
				wantV(t, x.k+" times "+text(a), vec.Scale(k, a), v(x.scaled))
			}
			for i, b := range forms(v(x.b)) {
				names := text(a) + " and " + text(b)
				wantV(t, "the sum of "+names, vec.Add(a, b), v(x.sum))
				wantV(t, "the difference of "+names, vec.Sub(a, b), v(x.less))
				wantQ(t, "the inner product of "+names, vec.Dot(a, b), q(x.dot))
				wantV(t, "Sum of "+names, vec.Sum(a, b), v(x.sum))
				k := oddForms(q(x.k))[i%(manners+1)]
				wantV(t, "AddScaled by "+x.k+" of "+names, vec.AddScaled(k, a, b), v(x.addScaled))
			}
		}
	}
}

func TestP31CanonicalElements(t *testing.T) {
	for _, x := range []string{"0", "1", "-1", "5", "-3/2", "1/3", "18446744073709551616", "-7/18446744073709551616"} {
		minus := frac.Neg(q(x))
		for _, element := range oddForms(q(x)) {
			for _, zero := range oddForms(api.Q{}) {
				// The element stands where both vectors have elements, and where only one has.
				a, zeros := []api.Q{element, element}, []api.Q{zero}
				as, less := []api.Q{q(x), q(x)}, []api.Q{minus, minus}
				wantV(t, "a + 0", vec.Add(a, zeros), as)
				wantV(t, "0 + a", vec.Add(zeros, a), as)
				wantV(t, "a - 0", vec.Sub(a, zeros), as)
				wantV(t, "0 - a", vec.Sub(zeros, a), less)
				wantV(t, "0 a", vec.Scale(zero, a), v("0 0"))
				wantV(t, "0 a + a", vec.AddScaled(zero, a, a), as)
				wantV(t, "a 0 + a", vec.AddScaled(element, zeros, a), as)
				wantV(t, "1 a + 0", vec.AddScaled(q("1"), a, zeros), as)
				wantV(t, "-1 a", vec.Scale(q("-1"), a), less)
				wantQ(t, "the inner product of a and 0", vec.Dot(a, zeros), api.Q{})
				wantQ(t, "the inner product of a and 0 1", vec.Dot(a, []api.Q{zero, q("1")}), q(x))
				wantQ(t, "the inner product of 1 0 and a", vec.Dot([]api.Q{q("1"), zero}, a), q(x))
				wantV(t, "the sum of a", vec.Sum(a), as)
				wantV(t, "the sum of a and 0", vec.Sum(a, zeros), as)
				wantV(t, "the sum of 0 and a", vec.Sum(zeros, a), as)
			}
		}
	}
}

func TestP31Lengths(t *testing.T) {
	zeros := make([]api.Q, 9)
	for n := range zeros {
		for m := range zeros {
			a, b, want := zeros[:n], zeros[:m], zeros[:max(n, m)]
			wantV(t, "a sum", vec.Add(a, b), want)
			wantV(t, "a difference", vec.Sub(a, b), want)
			for _, k := range v("0 1 -1/3") {
				wantV(t, "a scaled sum", vec.AddScaled(k, a, b), want)
				wantV(t, "a scaled vector", vec.Scale(k, a), a)
			}
			wantV(t, "Sum", vec.Sum(a, b), want)
			wantV(t, "Sum", vec.Sum(nil, a, nil, b, nil), want)
			wantV(t, "Sum", vec.Sum(b, a, zeros[:1]), zeros[:max(n, m, 1)])
		}
	}
}

func TestP31Sum(t *testing.T) {
	if got := vec.Sum(); len(got) != 0 {
		t.Errorf("the sum of no vectors is %s, want nil", text(got))
	}
	if got := vec.Sum([][]api.Q{}...); len(got) != 0 {
		t.Errorf("the sum of no vectors is %s, want nil", text(got))
	}
	for _, x := range []struct {
		want string
		l    []string
	}{
		{"", []string{""}}, {"", []string{"", "", ""}}, {"1/2 -3", []string{"1/2 -3"}}, {"0 0", []string{"0 0"}},
		{"1 2 3", []string{"1 2 3", "", ""}}, {"1 2 3", []string{"", "1 2 3"}}, {"1 0 0", []string{"1", "0 0 0", "0"}},
		{"6", []string{"1", "2", "3"}}, {"2 2 1", []string{"1/2", "1/2 1 1/3", "1 1 1/3", "0 0 1/3"}}, {"2 2 1", []string{"0 0 1/3", "1 1 1/3", "1/2 1 1/3", "1/2"}},
		{"0 0 0", []string{"1 2 3", "-1 -1 -1", "0 -1 -2"}}, {"1 2 3 4 5", []string{"1", "0 2", "0 0 3", "0 0 0 4", "0 0 0 0 5"}},
		{"5 4 3 2 1", []string{"1 1 1 1 1", "1 1 1 1", "1 1 1", "1 1", "1"}},
		{"18446744073709551617 1/6", []string{"18446744073709551615 1/2", "1 -1/3", "1"}},
	} {
		for i := range manners + 1 {
			var l [][]api.Q
			for k, s := range x.l {
				l = append(l, forms(v(s))[(i+k)%(manners+1)])
			}
			wantV(t, "the sum of several vectors", vec.Sum(l...), v(x.want))
		}
	}
}

func TestP31RandomVectors(t *testing.T) {
	g := generator(31)
	for range 2000 {
		p, r, k := random(g, 6), random(g, 6), randomQ(g)
		scale := func(x, _ api.Q) api.Q { return frac.Mul(k, x) }
		var dot api.Q
		for _, x := range elementwise(p, r, frac.Mul) {
			dot = frac.Add(dot, x)
		}
		a, b, factor := randomForm(g, p), randomForm(g, r), oddForms(k)[g.IntN(manners+1)]
		names := text(a) + " and " + text(b)
		wantV(t, "the sum of "+names, vec.Add(a, b), elementwise(p, r, frac.Add))
		wantV(t, "the difference of "+names, vec.Sub(a, b), elementwise(p, r, frac.Sub))
		wantV(t, frac.Format(k)+" times "+text(a), vec.Scale(factor, a), elementwise(p, nil, scale))
		wantV(t, "AddScaled by "+frac.Format(k)+" of "+names, vec.AddScaled(factor, a, b), elementwise(elementwise(p, nil, scale), r, frac.Add))
		wantQ(t, "the inner product of "+names, vec.Dot(a, b), dot)
		last := random(g, 8)
		sum := elementwise(elementwise(p, r, frac.Add), last, frac.Add)
		wantV(t, "the sum of three", vec.Sum(a, b, randomForm(g, last)), sum)
	}
}

// Only Unit and Resize limit the length of a vector.
func TestP31LongVectors(t *testing.T) {
	n := 65536 + 3
	long, short := make([]api.Q, n), v("1/2 -1")
	long[0], long[n-1] = q("1"), q("2/3")
	sum, less, times := slices.Clone(long), slices.Clone(long), slices.Clone(long)
	sum[0], sum[1], less[0], less[1], times[0], times[n-1] = q("3/2"), q("-1"), q("1/2"), q("1"), q("3"), q("2")
	wantV(t, "the sum", vec.Add(long, short), sum)
	wantV(t, "the sum", vec.Sum(short, long), sum)
	wantV(t, "the difference", vec.Sub(long, short), less)
	wantV(t, "the scaled vector", vec.Scale(q("3"), long), times)
	wantV(t, "the scaled sum", vec.AddScaled(q("3"), long, nil), times)
	wantQ(t, "the inner product", vec.Dot(long, long), q("13/9"))
}
