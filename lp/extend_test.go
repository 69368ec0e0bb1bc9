package lp_test

import (
	"slices"
	"testing"

	"pylon/api"
	"pylon/frac"
	"pylon/lp"
)

// negated returns -a.
func negated(a []api.Q) []api.Q {
	var b []api.Q
	for _, x := range a {
		b = append(b, frac.Neg(x))
	}
	return b
}

// longer returns p with further constraints.
func longer(p api.LP, rows [][]api.Q, bounds []api.Q) api.LP {
	p.Rows, p.Bounds = slices.Concat(p.Rows, rows), slices.Concat(p.Bounds, bounds)
	return p
}

// wantExtended checks AddConstraint and AddEquation for all forms of a program and a constraint.
func wantExtended(t *testing.T, p api.LP, row []api.Q, most api.Q) {
	t.Helper()
	for _, form := range forms(p) {
		for _, l := range formsV(append(slices.Clone(row), most)) {
			got, e := lp.AddConstraint(form, l[:len(row)], l[len(row)])
			wantP(t, "AddConstraint to "+text(p), got, longer(p, [][]api.Q{row}, []api.Q{most}), e)
			got, e = lp.AddEquation(form, l[:len(row)], l[len(row)])
			wantP(t, "AddEquation to "+text(p), got, longer(p, [][]api.Q{row, negated(row)}, []api.Q{most, frac.Neg(most)}), e)
		}
	}
}

func TestP63Extend(t *testing.T) {
	for _, p := range []api.LP{
		sample(), program(2, "1;", "", ""), program(3, "1/2 1/3; 0 0 4; ; 5;", "1/3; -1 0 1/5; ;", "1/2 -3 0"), program(2, "; ;", "; ;", "0 0"), program(api.MaxCols, "1;", "2;", "3"),
	} {
		for _, row := range m("; 5; 1 2; 0 0; -1/2; 0 -7/3; 1/18446744073709551616 18446744073709551616;") {
			for _, most := range v("0 7 -7 1/3 -18446744073709551617/2") {
				wantExtended(t, p, row, most)
			}
		}
	}
	for _, row := range m("; ; ;") {
		wantExtended(t, program(0, ";", ";", "3"), row, q("-2/3"))
	}
	wantExtended(t, program(3, "1;", "", ""), v("1 2 3"), q("4"))
	full, _ := sized(api.MaxCols, 1)
	wantExtended(t, full, full.Objectives[0], q("4"))
}

func TestP63NotValid(t *testing.T) {
	for _, p := range notValid() {
		for _, form := range forms(p) {
			for _, row := range m("; 1; 1 2; 1 2 3;") {
				got, e := lp.AddConstraint(form, row, q("1"))
				wantArg(t, "AddConstraint to "+text(p), got, e)
				got, e = lp.AddEquation(form, row, q("1"))
				wantArg(t, "AddEquation to "+text(p), got, e)
			}
		}
	}
}

// A row is too long even where its last elements are 0.
func TestP63LongRows(t *testing.T) {
	wide, _ := sized(api.MaxCols, 1)
	for _, p := range []api.LP{sample(), program(0, ";", "", ""), program(1, "1;", "1;", "1"), wide} {
		for _, more := range []string{"0", "1", "0 0", "0 -1/2", "1 2 3"} {
			for _, row := range formsV(append(make([]api.Q, p.Vars), v(more)...)) {
				got, e := lp.AddConstraint(p, row, q("1"))
				wantArg(t, "AddConstraint of ("+show(row)+") to "+text(p), got, e)
				got, e = lp.AddEquation(p, row, q("1"))
				wantArg(t, "AddEquation of ("+show(row)+") to "+text(p), got, e)
			}
		}
		// What stands in memory beyond the end does not count.
		row := append(make([]api.Q, p.Vars), v("1 2 3")...)[:p.Vars]
		wantExtended(t, p, row, q("1"))
	}
}

func TestP63ManyConstraints(t *testing.T) {
	for n := api.MaxRows - 4; n <= api.MaxRows+2; n++ {
		p, _ := sized(2, n)
		row, most := v("1/2 -1/3"), q("5/7")
		got, e := lp.AddConstraint(p, row, most)
		if n+1 <= api.MaxRows {
			wantP(t, "AddConstraint to many constraints", got, longer(p, [][]api.Q{row}, []api.Q{most}), e)
		} else {
			wantArg(t, "AddConstraint to too many constraints", got, e)
		}
		got, e = lp.AddEquation(p, row, most)
		if n+2 <= api.MaxRows {
			wantP(t, "AddEquation to many constraints", got, longer(p, [][]api.Q{row, negated(row)}, []api.Q{most, frac.Neg(most)}), e)
		} else {
			wantArg(t, "AddEquation to too many constraints", got, e)
		}
	}
}

// TestP63Points checks what the constraints that have been added say.
func TestP63Points(t *testing.T) {
	g, both := generator(631), 0
	for range 2000 {
		p := randomP(g)
		x, row := positiveV(g, p.Vars), randomV(g, g.IntN(p.Vars+1))
		for i, constraint := range p.Rows {
			p.Bounds[i] = frac.Add(dot(constraint, x), frac.FromInt64(g.Int64N(3)))
		}
		difference := g.Int64N(3) - 1
		most := frac.Add(dot(row, x), frac.FromInt64(difference))
		constrained, e := lp.AddConstraint(p, row, most)
		equal, e2 := lp.AddEquation(p, row, most)
		if e != api.OK || e2 != api.OK {
			t.Fatalf("AddConstraint and AddEquation return the errors %d and %d for (%s) and %s", e, e2, show(row), text(p))
		}
		if lp.Feasible(constrained, x) != (difference >= 0) || lp.Feasible(equal, x) != (difference == 0) || !lp.Feasible(p, x) {
			t.Errorf("(%s) is a feasible point of (%s): %t, and of (%s): %t", show(x), text(constrained), lp.Feasible(constrained, x), text(equal), lp.Feasible(equal, x))
		}
		if difference == 0 {
			both++
		}
	}
	if both < 400 {
		t.Errorf("%d equations hold", both)
	}
}

// wantEqual checks Equal for all forms of two programs, in both orders.
func wantEqual(t *testing.T, p, other api.LP, want bool) {
	t.Helper()
	for _, a := range forms(p) {
		for _, b := range forms(other) {
			if lp.Equal(a, b) != want || lp.Equal(b, a) != want {
				t.Errorf("Equal = %t and %t for (%s) and (%s)", lp.Equal(a, b), lp.Equal(b, a), text(p), text(other))
			}
		}
	}
}

func TestP63Equal(t *testing.T) {
	base := func(objectives, rows string) api.LP { return program(3, objectives, rows, "4 0 1/2") }
	for _, x := range []struct{ p, other api.LP }{
		{sample(), sample()}, {largest(), largest()}, {api.LP{}, api.LP{}}, {program(0, ";", "", ""), program(0, ";", "", "")}, {api.LP{}, api.LP{Objectives: [][]api.Q{}, Rows: [][]api.Q{}, Bounds: []api.Q{}}},
		// Zeros at the ends of vectors.
		{base("1 2; ; 0 3;", "1; ; 0 2;"), base("1 2 0; 0; 0 3;", "1; ; 0 2;")}, {base("1 2; ; 0 3;", "1; ; 0 2;"), base("1 2; ; 0 3;", "1 0 0; 0 0; 0 2 0;")}, {base("1 0; 0 0 0;", "0; 0; 0;"), base("1; ;", "; ; ;")},
		// Programs that are not valid.
		{program(-3, "1;", "1;", "1 2 3"), program(-3, "1 0;", "1 0;", "1 2 3")}, {program(1, "1 2 3;", "", ""), program(1, "1 2 3 0;", "", "")}, {program(1, "", "1; 2;", ""), program(1, "", "1; 2;", "")}, {program(1, "", "", "1 0"), program(1, "", "", "1 0")},
		{program(1000, "1; 2; 3; 4; 5;", "1;", "1"), program(1000, "1; 2; 3; 4; 5;", "1;", "1")},
	} {
		wantEqual(t, x.p, x.other, true)
	}
}

// Sizes count, even where only zeros are missing.
func TestP63EqualSizes(t *testing.T) {
	p := program(2, "1;", "1;", "1")
	for _, x := range []struct {
		vars                     int
		objectives, rows, bounds string
	}{
		{3, "1;", "1;", "1"}, {1, "1;", "1;", "1"}, {0, "1;", "1;", "1"}, {-2, "1;", "1;", "1"}, {2, "1; ;", "1;", "1"}, {2, "1; 0;", "1;", "1"}, {2, "", "1;", "1"}, {2, "1; 1;", "1;", "1"},
		{2, "1;", "1; ;", "1"}, {2, "1;", "1; 0 0;", "1"}, {2, "1;", "1; 0;", "1 0"}, {2, "1;", "", "1"}, {2, "1;", "", ""}, {2, "1;", "1; 1;", "1"}, {2, "1;", "1;", "1 0"}, {2, "1;", "1;", "1 0 0"}, {2, "1;", "1;", ""}, {2, "1;", "1;", "1 1"},
	} {
		wantEqual(t, p, program(x.vars, x.objectives, x.rows, x.bounds), false)
	}
	zero := program(2, ";", ";", "0")
	for _, other := range []api.LP{{}, program(2, "", ";", "0"), program(2, ";", "", "0"), program(2, ";", ";", ""), program(2, "; ;", ";", "0"), program(2, ";", "; ;", "0"), program(2, ";", ";", "0 0"), program(2, ";", "", ""), program(2, ";", "; ;", "0 0")} {
		wantEqual(t, zero, other, false)
	}
	// The sizes of several parts differ, but not their sum.
	wantEqual(t, program(2, "; ;", ";", "0"), program(2, ";", "; ;", "0"), false)
	wantEqual(t, program(1, ";", ";", "0"), program(2, "", ";", "0"), false)
	wantEqual(t, program(2, ";", "; ;", "0"), program(2, ";", ";", "0 0"), false)
}

// Programs that differ in one number only are not equal, wherever it stands and however little it differs.
func TestP63EqualNumbers(t *testing.T) {
	p := program(3, "3 5 1/2; 1 -1; ; 0 0 7;", "1; 0 2; ; 3 2 -1/3;", "4 12 0 18")
	for _, change := range v("1 -1 1/18446744073709551616") {
		for kind := range 3 {
			for i := range 4 {
				for k := range 3 {
					other := program(3, "3 5 1/2; 1 -1; ; 0 0 7;", "1; 0 2; ; 3 2 -1/3;", "4 12 0 18")
					switch kind {
					case 0:
						other.Objectives[i] = padTo(other.Objectives[i], 3)
						other.Objectives[i][k] = frac.Add(other.Objectives[i][k], change)
					case 1:
						other.Rows[i] = padTo(other.Rows[i], 3)
						other.Rows[i][k] = frac.Add(other.Rows[i][k], change)
					default:
						other.Bounds[i] = frac.Add(other.Bounds[i], change)
					}
					wantEqual(t, p, other, false)
				}
			}
		}
	}
	wantEqual(t, program(2, "1 2; 3;", "", ""), program(2, "3; 1 2;", "", ""), false)
	wantEqual(t, program(2, "1;", "1; 2;", "3 3"), program(2, "1;", "2; 1;", "3 3"), false)
	wantEqual(t, program(2, "1;", "1; 1;", "3 4"), program(2, "1;", "1; 1;", "4 3"), false)
	wantEqual(t, program(2, "1 2;", "1;", "3"), program(2, "2 1;", "1;", "3"), false)
	wantEqual(t, program(2, "1;", "2;", "3"), program(2, "2;", "1;", "3"), false)
}

func TestP63EqualRandom(t *testing.T) {
	g, equal := generator(632), 0
	for range 2000 {
		p := anyP(g)
		other := api.LP{Vars: p.Vars, Objectives: slices.Clone(p.Objectives), Rows: slices.Clone(p.Rows), Bounds: slices.Clone(p.Bounds)}
		for _, l := range [][][]api.Q{other.Objectives, other.Rows, {other.Bounds}} {
			for i := range l {
				l[i] = slices.Clone(l[i])
				if g.IntN(6) == 0 && len(l[i]) > 0 {
					l[i][g.IntN(len(l[i]))] = randomQ(g)
				}
			}
		}
		if g.IntN(8) == 0 {
			other.Bounds = randomV(g, g.IntN(7))
		}
		want := text(trimmed(p)) == text(trimmed(other))
		if want {
			equal++
		}
		wantEqual(t, p, other, want)
	}
	if equal < 300 || equal > 1700 {
		t.Errorf("%d of 2000 pairs of programs are equal", equal)
	}
}
