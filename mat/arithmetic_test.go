package mat_test

import (
	"testing"

	"pylon/api"
	"pylon/frac"
	"pylon/mat"
	"pylon/vec"
)

var arithmetic = []struct {
	a, b, x, y, k string
	// The results are a x, y a, a b, the transpose of a, a + b, k a and the block matrix of a and b.
	mulVec, vecMul, mul, transpose, add, scale, concat string
}{
	{"", "", "", "", "5",
		"", "", "", "", "", "", ""},
	{";", "", "", "", "5",
		"0", "", ";", "", ";", ";", ";"},
	{"", "1 2; 3;", "1 2", "1 2", "2",
		"", "", "", "", "1 2; 3;", "", "1 2; 3 0;"},
	{"1 2; 3;", "", "", "", "2",
		"0 0", "0 0", "; ;", "1 3; 2 0;", "1 2; 3;", "2 4; 6;", "1 2; 3 0;"},
	{";;", "; 1; 2 3;", "1", "1 1", "3",
		"0 0", "", "0 0; 0 0;", "", "; 1; 2 3;", "; ;", "0 0; 1 0; 2 3;"},
	{"1 2; 3;", "9;", "5 7", "1 1", "-1",
		"19 15", "4 2", "9; 27;", "1 3; 2 0;", "10 2; 3;", "-1 -2; -3;", "1 2 9; 3 0 0;"},
	{"1 2; 3;", "1 2; 3;", "5 7", "1 1", "1/2",
		"19 15", "4 2", "7 2; 3 6;", "1 3; 2 0;", "2 4; 6;", "1/2 1; 3/2;", "1 2 1 2; 3 0 3 0;"},
	{"1 2; 3;", "1 2 3; 4; 5 6 7 8;", "1 1 9 9", "2 -1 9", "0",
		"3 3", "-1 4", "9 2 3 0; 3 6 9 0;", "1 3; 2 0;", "2 4 3; 7; 5 6 7 8;", "0 0; 0;", "1 2 1 2 3 0; 3 0 4 0 0 0; 0 0 5 6 7 8;"},
	{"1 2 3; 4 5 6;", "1 0; 0 1; 1 1;", "1 -1 1", "1 -1", "3",
		"2 5", "-3 -3 -3", "4 5; 10 11;", "1 4; 2 5; 3 6;", "2 2 3; 4 6 6; 1 1;", "3 6 9; 12 15 18;", "1 2 3 1 0; 4 5 6 0 1; 0 0 0 1 1;"},
	{"1 2 3; 4 5 6;", "1 1;", "2", "3", "-2",
		"2 8", "3 6 9", "1 1; 4 4;", "1 4; 2 5; 3 6;", "2 3 3; 4 5 6;", "-2 -4 -6; -8 -10 -12;", "1 2 3 1 1; 4 5 6 0 0;"},
	{"0 1; 1;", "; 1 2;", "1/2 1/3", "1/3 1/2", "6",
		"1/3 1/2", "1/2 1/3", "1 2; 0 0;", "0 1; 1 0;", "0 1; 2 2;", "0 6; 6;", "0 1 0 0; 1 0 1 2;"},
	{"; 1 2; ; 0 0 3;", "2; ; 1/2 1/3;", "4 5 6 7", "0 1/2 5 1", "7",
		"0 14 0 18", "1/2 1 3", "0 0; 2 0; 0 0; 3/2 1;", "0 1 0 0; 0 2 0 0; 0 0 0 3;", "2; 1 2; 1/2 1/3; 0 0 3;", "; 7 14; ; 0 0 21;", "0 0 0 2 0; 1 2 0 0 0; 0 0 0 1/2 1/3; 0 0 3 0 0;"},
	{"1/2 1/3; -1/6 0 2/3;", "-1/2 2/3; 1/6; 3 0 -3;", "6 -3 3/2", "-6 6", "-3/2",
		"2 0", "-4 -2 4", "-7/36 1/3 0; 25/12 -1/9 -2;", "1/2 -1/6; 1/3 0; 0 2/3;", "0 1; 0 0 2/3; 3 0 -3;", "-3/4 -1/2; 1/4 0 -1;", "1/2 1/3 0 -1/2 2/3 0; -1/6 0 2/3 1/6 0 0; 0 0 0 3 0 -3;"},
	{"5; 6; 7;", "1 2 3;", "3", "1 2 3", "1/5",
		"15 18 21", "38", "5 10 15; 6 12 18; 7 14 21;", "5 6 7;", "6 2 3; 6; 7;", "1; 6/5; 7/5;", "5 1 2 3; 6 0 0 0; 7 0 0 0;"},
	{"1 2 3;", "5; 6; 7;", "1 2 3", "3", "1/6",
		"14", "3 6 9", "38;", "1; 2; 3;", "6 2 3; 6; 7;", "1/6 1/3 1/2;", "1 2 3 5; 0 0 0 6; 0 0 0 7;"},
	{"1 -1; -1 1;", "1 1; 1 1;", "1 1", "1 1", "-1",
		"0 0", "0 0", "0 0; 0 0;", "1 -1; -1 1;", "2 0; 0 2;", "-1 1; 1 -1;", "1 -1 1 1; -1 1 1 1;"},
	{"1 2; -3 -4;", "-1 -2; 3 4;", "2 -1", "3 1", "0",
		"0 -2", "0 2", "5 6; -9 -10;", "1 -3; 2 -4;", "0 0; 0 0;", "0 0; 0 0;", "1 2 -1 -2; -3 -4 3 4;"},
	{"0 0; 0;", "0; 0 0 0;", "0 0", "0", "0",
		"0 0", "0 0", "0 0 0; 0 0 0;", "0 0; 0 0;", "0 0; 0 0 0;", "0 0; 0;", "0 0 0 0 0; 0 0 0 0 0;"},
	{"18446744073709551616 1/18446744073709551616; 0 -1;", "1/18446744073709551616; 18446744073709551616 1;", "1/18446744073709551616 18446744073709551616", "-1 1/18446744073709551616", "1/2",
		"2 -18446744073709551616", "-18446744073709551616 -1/9223372036854775808", "2 1/18446744073709551616; -18446744073709551616 -1;", "18446744073709551616 0; 1/18446744073709551616 -1;", "340282366920938463463374607431768211457/18446744073709551616 1/18446744073709551616; 18446744073709551616 0;", "9223372036854775808 1/36893488147419103232; 0 -1/2;", "18446744073709551616 1/18446744073709551616 1/18446744073709551616 0; 0 -1 18446744073709551616 1;"},
}

func TestP42Values(t *testing.T) {
	for _, x := range arithmetic {
		for manner, a := range forms(m(x.a)) {
			factor := forms([][]api.Q{v(x.k)})[manner][0][0]
			column, row := forms([][]api.Q{v(x.x), v(x.y)})[manner][0], forms([][]api.Q{v(x.y)})[manner][0]
			wantV(t, "MulVec of "+text(a)+" and "+x.x, mat.MulVec(a, column), v(x.mulVec))
			wantV(t, "VecMul of "+x.y+" and "+text(a), mat.VecMul(row, a), v(x.vecMul))
			wantM(t, "Transpose of "+text(a), mat.Transpose(a), m(x.transpose))
			wantM(t, "Scale by "+x.k+" of "+text(a), mat.Scale(factor, a), m(x.scale))
			for _, b := range forms(m(x.b)) {
				names := " of " + text(a) + " and " + text(b)
				wantM(t, "Mul"+names, mat.Mul(a, b), m(x.mul))
				wantM(t, "Add"+names, mat.Add(a, b), m(x.add))
				wantM(t, "Concat"+names, mat.Concat(a, b), m(x.concat))
			}
		}
	}
}

// Every element of a result has to be canonical, also where it equals an element of an argument or is 0.
func TestP42CanonicalElements(t *testing.T) {
	one, none := m("1;"), m("0;")
	for _, x := range []string{"0", "1", "-1", "5", "-3/2", "1/3", "18446744073709551616", "-7/18446744073709551616"} {
		for _, a := range forms(m(x + " 0; " + x + ";"))[1:] {
			for _, zero := range forms(none) {
				first := m(x + " 0;")
				wantM(t, "1 a", mat.Mul(one, a), first)
				wantM(t, "a 1", mat.Mul(a, one), m(x+"; "+x+";"))
				wantM(t, "0 a", mat.Mul(zero, a), m("0 0;"))
				wantM(t, "a 0", mat.Mul(a, zero), m("0; 0;"))
				wantV(t, "1 a", mat.VecMul(one[0], a), first[0])
				wantV(t, "0 a", mat.VecMul(zero[0], a), v("0 0"))
				wantV(t, "a 1", mat.MulVec(a, one[0]), v(x+" "+x))
				wantV(t, "a 0", mat.MulVec(a, zero[0]), v("0 0"))
				wantM(t, "a + 0", mat.Add(a, zero), m(x+" 0; "+x+";"))
				wantM(t, "0 + a", mat.Add(zero, a), m(x+" 0; "+x+";"))
				wantM(t, "1 a", mat.Scale(one[0][0], a), m(x+" 0; "+x+";"))
				wantM(t, "0 a", mat.Scale(zero[0][0], a), m("0 0; 0;"))
				wantM(t, "the transpose", mat.Transpose(a), m(x+" "+x+"; 0 0;"))
				wantM(t, "[a 0]", mat.Concat(a, zero), m(x+" 0 0; "+x+" 0 0;"))
				wantM(t, "[0 a]", mat.Concat(zero, a), m("0 "+x+" 0; 0 "+x+" 0;"))
			}
		}
	}
}

// Empty rows have no elements in sums and multiples, but are as long as all others in products, transposes and block matrices.
func TestP42Lengths(t *testing.T) {
	for _, lengths := range [][]int{{}, {0}, {0, 0}, {3}, {0, 2}, {2, 0}, {1, 4, 0, 2}, {5, 5}} {
		var a [][]api.Q
		for _, n := range lengths {
			a = append(a, make([]api.Q, n))
		}
		for _, other := range [][]int{{}, {0}, {0, 0, 0}, {1}, {0, 3}, {4, 0}, {2, 1, 0, 1, 0}} {
			var b [][]api.Q
			for _, n := range other {
				b = append(b, make([]api.Q, n))
			}
			for _, y := range [][]api.Q{nil, v("0"), v("0 0 0 0 0 0 0"), v("1 2 3")} {
				wantV(t, "MulVec", mat.MulVec(a, y), make([]api.Q, len(a)))
				wantV(t, "VecMul", mat.VecMul(y, a), make([]api.Q, width(a)))
			}
			var sum [][]api.Q
			for i := range max(len(a), len(b)) {
				sum = append(sum, make([]api.Q, max(length(a, i), length(b, i))))
			}
			zero := func(i, k int) api.Q { return api.Q{} }
			wantM(t, "Mul", mat.Mul(a, b), table(len(a), width(b), zero))
			wantM(t, "Transpose", mat.Transpose(a), table(width(a), len(a), zero))
			wantM(t, "Add", mat.Add(a, b), sum)
			wantM(t, "Scale", mat.Scale(q("2"), a), a)
			wantM(t, "Concat", mat.Concat(a, b), table(max(len(a), len(b)), width(a)+width(b), zero))
		}
	}
}

// length returns the length of row i, 0 if there is none.
func length(a [][]api.Q, i int) int {
	if i < len(a) {
		return len(a[i])
	}
	return 0
}

func TestP42RandomMatrices(t *testing.T) {
	g := generator(42)
	for range 1500 {
		p, r, z, k := random(g, 5), random(g, 5), randomV(g, 6), randomQ(g)
		a, b, x, factor := randomForm(g, p), randomForm(g, r), oddRow(z, g.IntN(manners)), odd(k, g.IntN(manners))
		names := text(a) + ", " + text(b) + " and " + rowText(x)
		wantV(t, "MulVec for "+names, mat.MulVec(a, x), table(1, len(p), func(_, i int) api.Q {
			return sum(6, func(k int) api.Q { return frac.Mul(at(p, i, k), at([][]api.Q{z}, 0, k)) })
		})[0])
		wantV(t, "VecMul for "+names, mat.VecMul(x, a), table(1, width(p), func(_, k int) api.Q {
			return sum(6, func(i int) api.Q { return frac.Mul(at([][]api.Q{z}, 0, i), at(p, i, k)) })
		})[0])
		wantM(t, "Mul for "+names, mat.Mul(a, b), table(len(p), width(r), func(i, k int) api.Q {
			return sum(6, func(j int) api.Q { return frac.Mul(at(p, i, j), at(r, j, k)) })
		}))
		wantM(t, "Transpose for "+names, mat.Transpose(a), table(width(p), len(p), func(i, k int) api.Q { return at(p, k, i) }))
		wantM(t, "Concat for "+names, mat.Concat(a, b), table(max(len(p), len(r)), width(p)+width(r), func(i, k int) api.Q {
			if k < width(p) {
				return at(p, i, k)
			}
			return at(r, i, k-width(p))
		}))
		var total, scaled [][]api.Q
		for i := range max(len(p), len(r)) {
			n := max(length(p, i), length(r, i))
			total = append(total, table(1, n, func(_, k int) api.Q { return frac.Add(at(p, i, k), at(r, i, k)) })[0])
		}
		for i := range p {
			scaled = append(scaled, table(1, len(p[i]), func(_, j int) api.Q { return frac.Mul(k, at(p, i, j)) })[0])
		}
		wantM(t, "Add for "+names, mat.Add(a, b), total)
		wantM(t, "Scale for "+names, mat.Scale(factor, a), scaled)
	}
}

// Neither the limits of package vec nor those of Resize and Identity apply to arithmetic.
func TestP42LongMatrices(t *testing.T) {
	n := 65536 + 3
	row := make([]api.Q, n)
	row[1], row[n-1] = q("1/2"), q("3")
	wide, high := [][]api.Q{row, v("-1")}, make([][]api.Q, n)
	for i := range high {
		high[i] = []api.Q{row[i], {}}
	}
	high[0][1] = q("-1")
	wantM(t, "Transpose of many columns", mat.Transpose(wide), high)
	wantM(t, "Transpose of many rows", mat.Transpose(high), [][]api.Q{row, append(v("-1"), make([]api.Q, n-1)...)})
	wantV(t, "MulVec", mat.MulVec(wide, row), v("37/4 0"))
	wantV(t, "MulVec", mat.MulVec(high, v("1 1"))[n-2:], v("0 3"))
	product := vec.Add(row, v("-2"))
	wantV(t, "VecMul", mat.VecMul(v("1 2"), wide), product)
	wantV(t, "VecMul", mat.VecMul(row, high), v("37/4 0"))
	wantM(t, "Mul", mat.Mul(wide, high), m("37/4 0; 0 1;"))
	wantM(t, "Mul", mat.Mul(m("1 2;"), wide), [][]api.Q{product})
	wantM(t, "Add", mat.Add(wide, m("-2;")), [][]api.Q{product, v("-1")})
	wantM(t, "Add", mat.Add(high, nil), high)
	wantM(t, "Scale", mat.Scale(q("2"), wide), [][]api.Q{vec.Add(row, row), v("-2")})
	wantM(t, "Concat", mat.Concat(m("; ; 7;"), wide), [][]api.Q{
		append(v("0"), row...), append(v("0 -1"), make([]api.Q, n-1)...), append(v("7"), make([]api.Q, n)...),
	})
	wantM(t, "Concat", mat.Concat([][]api.Q{row}, m("7;")), [][]api.Q{append(row[:n:n], q("7"))})
	wantM(t, "Concat", mat.Concat(high, nil), high)
}
