package simplex_test

import (
	"math"
	"math/rand/v2"
	"slices"
	"testing"

	"pylon/api"
	"pylon/frac"
	"pylon/lp"
	"pylon/simplex"
	"pylon/tableau"
)

// notValid returns programs with one flaw each.
func notValid() []api.LP {
	l := []api.LP{{}}
	for _, vars := range []int{-1, math.MinInt, 1, api.MaxCols + 1, math.MaxInt} {
		l = append(l, program(vars, "3 5;", "1; 0 2;", "4 12"))
	}
	for _, x := range []struct{ objectives, rows, bounds string }{
		{"", "1; 0 2;", "4 12"}, {"", "", ""}, {"3 5; 1; 1; 1; 1;", "1; 0 2;", "4 12"}, {"3 5;", "1; 0 2;", "4"}, {"3 5;", "1; 0 2;", ""}, {"3 5;", "1; 0 2;", "4 12 0"}, {"3 5;", "", "4"},
		{"3 5 0;", "1; 0 2;", "4 12"}, {"3 5; 1 2 3;", "1; 0 2;", "4 12"}, {"3 5;", "1 2 3; 0 2;", "4 12"}, {"3 5;", "1; 0 2 0;", "4 12"}, {"3 5 0;", "-1;", "-1"}, {"3 5;", "1; 0 0 0;", "-1 1"},
	} {
		l = append(l, program(2, x.objectives, x.rows, x.bounds))
	}
	many := largest()
	many.Rows, many.Bounds = append(many.Rows, v("1")), append(many.Bounds, q("1"))
	return append(l, many, program(0, "3;", "", ""), program(0, ";", "0;", "1"))
}

// largest returns a program at all limits: its constraint i concerns the variables i and i+1, modulo their number.
func largest() api.LP {
	p := api.LP{Vars: api.MaxCols}
	for i := range api.MaxObjectives {
		objective := make([]api.Q, api.MaxCols)
		objective[i], objective[api.MaxCols-1-i] = q("2"), frac.FromInt64(int64(i))
		p.Objectives = append(p.Objectives, objective)
	}
	for i := range api.MaxRows {
		row := make([]api.Q, api.MaxCols)
		row[i%api.MaxCols], row[(i+1)%api.MaxCols] = q("3"), frac.FromInt64(int64(i%5))
		p.Rows, p.Bounds = append(p.Rows, row), append(p.Bounds, frac.FromInt64(int64(100+i%7)))
	}
	return p
}

// noResult reports whether nothing is set.
func noResult(r api.Result) bool {
	return r.Kind == 0 && len(r.X)+len(r.Y)+len(r.Ray)+len(r.Farkas) == 0 && r.Pivots == 0
}

func TestP81NotValid(t *testing.T) {
	for _, p := range notValid() {
		for _, form := range forms(p) {
			if r, e := simplex.Solve(form); e != api.ErrArg || !noResult(r) {
				t.Errorf("Solve returns error %d and %v for %s", e, r, text(p))
			}
		}
	}
}

// TestP81Examples has the examples of the chapter.
func TestP81Examples(t *testing.T) {
	wantOptimal(t, sample(), "2 6")
	infeasible := program(1, "1;", "1;", "-1")
	wantKind(t, infeasible, api.Infeasible)
	farkas := solved(t, infeasible).Farkas
	if frac.Sign(farkas[0]) <= 0 {
		t.Errorf("Farkas = (%s)", show(farkas))
	}
	wantKind(t, program(2, "1;", "-1 1;", "2"), api.Unbounded)
	wantOptimal(t, program(1, "0;", "-1;", "-3"), "3")
}

// The optimal points are the best ones where several points have the same objective values.
func TestP81Optimal(t *testing.T) {
	for _, p := range []struct {
		vars                    int
		objectives, rows, bound string
		x                       string
	}{
		{0, ";", "", "", ""}, {0, "; ; ; ;", "", "", ""}, {0, ";", "; ; ;", "0 1 2/3", ""},
		{1, ";", "", "", "0"}, {3, "; ;", "", "", "0 0 0"}, {2, "-1 -1/2; 0 -3;", "", "", "0 0"}, {3, "0 0 0; 0 0 -1; 5 5 -1;", "1; 0 1;", "4 7", "4 7 0"},
		{2, ";", "; ; ;", "1 2 3", "0 0"}, {1, "1;", "1; ;", "2/3 0", "2/3"}, {1, "-1;", "-1; ;", "-2/3 0", "2/3"},
		// Several points have equal values.
		{2, "1 1;", "1 1;", "1", "0 1"}, {2, "1 1;", "1 1; 0 1;", "1 1/3", "2/3 1/3"}, {3, "1 1 1;", "1 1 1;", "5", "0 0 5"}, {3, "1 1 1;", "1 1 1; 0 0 1; 0 1 1;", "5 2 3", "2 1 2"},
		{2, "1;", "1; 0 -1;", "3 -2", "3 2"}, {2, "0;", "-1 -1;", "-1", "0 1"}, {2, "0;", "-1 -1; 0 1;", "-1 1/4", "3/4 1/4"}, {2, "0;", "-1 -2; 0 1;", "-3 1", "1 1"}, {3, ";", "-1 -1 -1;", "-2", "0 0 2"},
		// Later objectives decide, and then the order of the variables.
		{2, "1 1; 1;", "1 1;", "1", "1 0"}, {2, "1 1; 0 1; 1;", "1 1;", "1", "0 1"}, {3, "0; 1 1 1; 0 1;", "1 1 1;", "2", "0 2 0"}, {3, "0; 1 1 1; 0 1 1;", "1 1 1;", "2", "0 0 2"}, {3, "1 1 1; -1; 0 -1; ;", "1 1 1; 0 0 1;", "2 1", "0 1 1"},
		{2, "1 -2; 5;", "1 -1;", "0", "0 0"}, {2, "1 -1; 0 1;", "1 -1; 0 1;", "2 9", "11 9"}, {2, "1 -1; -1;", "1 -1; 0 1;", "2 9", "2 0"},
		// Equations and constraints that are repeated or depend on each other.
		{2, "1 2;", "1 1; -1 -1;", "4 -4", "0 4"}, {2, "-1;", "1 1; -1 -1; 2 2; -2 -2;", "4 -4 8 -8", "0 4"}, {2, "2 1;", "1 1; 1 1; 1 1;", "4 4 4", "4 0"}, {2, "2 1;", "1 1; 2 2; 1/3 1/3; 1;", "4 6 1 1", "1 2"}, {3, "0 0 1;", "1 -1; -1 1; 1 0 1; 0 1 1; 0 -1 -1;", "0 0 5 5 -5", "0 0 5"},
		{2, "-1 -1;", "-1; 0 -1; -1 -1;", "-1 -1 -2", "1 1"}, {2, "-1 -1;", "1 -1; -1 1; -1 -1;", "0 0 -3", "3/2 3/2"}, {1, "1;", "1; -1;", "5/7 -5/7", "5/7"}, {1, "-1;", "1; -1; 1; -1;", "5 -3 4 -4", "4"},
		// Fractions and numbers of several words.
		{2, "1/2 2/5;", "1/5 1/7; 1/11 1/3;", "1/13 1/17", "2200/6851 609/6851"}, {2, "18446744073709551617 1;", "1 1/18446744073709551617;", "18446744073709551617", "0 340282366920938463500268095579187314689"}, {1, "1/18446744073709551616;", "18446744073709551616;", "1", "1/18446744073709551616"},
	} {
		wantOptimal(t, program(p.vars, p.objectives, p.rows, p.bound), p.x)
	}
}

func TestP81Infeasible(t *testing.T) {
	for _, p := range []struct {
		vars                    int
		objectives, rows, bound string
	}{
		{0, ";", ";", "-1"}, {0, "; ;", "; ; ;", "1 -1/3 0"}, {3, ";", "0 0 0;", "-1/18446744073709551616"}, {2, "1 1;", "; 1;", "-1 4"}, {2, "1 1;", "1; 0 1; -1 -1;", "1 1 -3"}, {2, "-1 -1;", "1; 0 1; -1 -1;", "1 1 -5/2"},
		{2, "1;", "1 1; -1 -1;", "1 -2"}, {2, ";", "1 -1; -1 1;", "-1 0"}, {3, "0 0 1;", "1 -1; 0 1 -1; -1 0 1;", "-1 0 1/2"}, {2, "0 1;", "1;", "-1"}, {2, "1 1;", "1 2; -1 -2;", "3 -4"}, {1, "; ; 1;", "1; -1; 1;", "4 -3 2"},
		{2, "1 -1; 3;", "18446744073709551616 1; -18446744073709551616 -1;", "1 -18446744073709551617/18446744073709551616"}, {4, "1 1 1 1;", "1 1; 0 0 1 1; -1 0 -1; 0 -1 0 -1;", "1 1 -1 -2"},
	} {
		wantKind(t, program(p.vars, p.objectives, p.rows, p.bound), api.Infeasible)
	}
}

func TestP81Unbounded(t *testing.T) {
	for _, p := range []struct {
		vars                    int
		objectives, rows, bound string
	}{
		{1, "1;", "", ""}, {1, "0; 1/7;", "", ""}, {2, "-1; ; ; 0 1;", "", ""}, {3, "-1 -1 1;", "1; 0 1;", "0 0"}, {1, "1;", "-1;", "-5"}, {1, "1;", ";", "0"}, {2, "1;", "-1 1; 1 -1;", "0 0"}, {2, "1 1;", "1 -1; -1 1;", "-3 3"},
		{2, "1 -1; 1;", "1 -1;", "2"}, {2, "0; 0; 0; 0 1;", "1;", "1"}, {3, "1 1 -3/2;", "1 1 -2; -1;", "1 -1/2"}, {3, "0 0 0; 1 1 -1;", "1 1 -2; -1; 0 -1;", "-4 -1 -1"}, {2, "1; 0 1;", "1; -1 -1;", "4 -8"}, {2, "1; 0 -1; 0 1; 0 1;", "1 -1;", "0"},
		{2, "18446744073709551617 -18446744073709551616;", "1 -1;", "1/18446744073709551616"},
	} {
		wantKind(t, program(p.vars, p.objectives, p.rows, p.bound), api.Unbounded)
	}
}

// TestP81Cycles solves programs at which simplex methods with other rules cycle, and their duals.
func TestP81Cycles(t *testing.T) {
	for _, p := range []struct {
		p api.LP
		x string
	}{
		{program(4, "3/4 -150 1/50 -6;", "1/4 -60 -1/25 9; 1/2 -90 -1/50 3; 0 0 1;", "0 0 1"), "1/25 0 1 0"},
		{program(4, "3/4 -20 1/2 -6;", "1/4 -8 -1 9; 1/2 -12 -1/2 3; 0 0 1;", "0 0 1"), "1 0 1 0"},
		{program(4, "10 -57 -9 -24;", "1/2 -11/2 -5/2 9; 1/2 -3/2 -1/2 1; 1;", "0 0 1"), "1 0 1 0"},
		{program(4, "2 3 -1 -12;", "-2 -9 1 9; 1/3 1 -1/3 -2; 2 3 -1 -12;", "0 0 2"), "2 0 2 0"},
		{program(3, "2/5 2/5 -9/5;", "3/5 -32/5 24/5; 1/5 -9/5 3/5; 2/5 -8/5 1/5; 0 1;", "0 0 0 1"), "4 1 0"},
		{program(4, "1 -1 1 -1;", "2 -3 -5 6; 6 -5 -3 2; 3 1 2 4;", "0 0 1"), "0 0 1/2 0"},
		{program(4, "1 -2 0 3/2;", "1 -1 -1 1; -1 -1 1 1; 1 1 1 1; -1; 1;", "0 0 0 0 0"), "0 0 0 0"},
	} {
		wantOptimal(t, p.p, p.x)
		dual, e := lp.Dual(p.p)
		if e != api.OK {
			t.Fatalf("Dual returns error %d", e)
		}
		wantKind(t, dual, api.Optimal)
		unlimited := p.p
		unlimited.Rows, unlimited.Bounds = p.p.Rows[:2], p.p.Bounds[:2]
		solved(t, unlimited)
	}
}

// TestP81Repairs solves programs with which the search for a feasible point returns to the same basis, if it begins at a basis that is
// not optimal for its objectives (the first one), or does not keep it so (the second one).
func TestP81Repairs(t *testing.T) {
	wantKind(t, program(5, "0 -1 1 -1 2; -2 -3 -1 -3 -3;", "-3 0 -2 -2 3; 2 0 -2 0 -2; -2 0 1 3 -1; 3 0 -1;", "-1 -1 -1 -1"), api.Unbounded)
	wantKind(t, program(6, "3 -1 -1 3 -2 2; 1 1 2 3 -1 -3;",
		"-2 -2 0 -3 0 -1; 0 3 -1 -3 2 3; -3 -3 3 -1 2 3; 3 2 2 -2 -2 1; -3 3 -1 -3 0 3; -2 -2 -1 1 0 -2; -2 3 2 -1 2 1; 2 1 -3 -1 2 -3; 2 -1 -3 -1 -1 -3;",
		"0 0 -1 0 -1 -1 -1 0 0"), api.Unbounded)
}

// deformed returns the cube of Klee and Minty, in which simplex methods with simple rules visit all of the 2^n corners.
func deformed(n int) api.LP {
	p := api.LP{Vars: n, Objectives: [][]api.Q{nil}}
	least, two, five := q("1"), q("2"), q("5")
	for i := range n {
		p.Objectives[0] = append([]api.Q{least}, p.Objectives[0]...)
		least = frac.Mul(least, two)
		var row []api.Q
		for _, x := range p.Objectives[0][:i] {
			row = append(row, frac.Mul(x, two))
		}
		p.Rows, p.Bounds = append(p.Rows, append(row, q("1"))), append(p.Bounds, five)
		five = frac.Mul(five, q("5"))
	}
	return p
}

func TestP81LongPaths(t *testing.T) {
	for _, n := range []int{1, 2, 3, 10, 40} {
		p := deformed(n)
		x := make([]api.Q, n)
		x[n-1] = p.Bounds[n-1]
		wantOptimal(t, p, show(x))
		dual, _ := lp.Dual(p)
		wantKind(t, dual, api.Optimal)
	}
}

// TestP81Limits solves programs of the greatest sizes.
func TestP81Limits(t *testing.T) {
	if r := solved(t, largest()); r.Kind != api.Optimal {
		t.Errorf("the largest program has kind %d", r.Kind)
	}
	contradiction := largest()
	contradiction.Rows[api.MaxRows-1], contradiction.Bounds[api.MaxRows-1] = vectorOf(api.MaxCols, "-1"), q("-4000")
	if r := solved(t, contradiction); r.Kind != api.Infeasible {
		t.Errorf("the largest program with a contradiction has kind %d", r.Kind)
	}
	open := largest()
	for i := range open.Rows {
		open.Rows[i][api.MaxCols-2] = api.Q{} // the second objective favours it
	}
	if r := solved(t, open); r.Kind != api.Unbounded {
		t.Errorf("the largest program with a free variable has kind %d", r.Kind)
	}
	wantKind(t, api.LP{Vars: api.MaxCols, Objectives: largest().Objectives}, api.Unbounded)
	wantKind(t, api.LP{Objectives: make([][]api.Q, api.MaxObjectives), Rows: make([][]api.Q, api.MaxRows), Bounds: largest().Bounds}, api.Optimal)
	repeated := api.LP{Vars: 1, Objectives: m("1;"), Rows: slices.Repeat(m("1;"), api.MaxRows), Bounds: ints(generator(811), api.MaxRows, 8, 9)}
	wantOptimal(t, repeated, "8")
}

// vectorOf returns n equal elements.
func vectorOf(n int, s string) []api.Q {
	return slices.Repeat(v(s), n)
}

// best returns the best of the solutions of all feasible bases of p, and whether there is one.
func best(p api.LP) (x []api.Q, found bool) {
	var basis []int
	var choose func(column int)
	choose = func(column int) {
		if len(basis) == len(p.Rows) {
			l, e := tableau.FromBasis(p, basis...)
			if e != api.OK || !l.Feasible() {
				return
			}
			if other := l.Solution(); !found || sign(minus(full(p, other), full(p, x))) > 0 {
				x, found = other, true
			}
			return
		}
		for k := column; k < p.Vars+len(p.Rows); k++ {
			basis = append(basis, k)
			choose(k + 1)
			basis = basis[:len(basis)-1]
		}
	}
	choose(0)
	return x, found
}

// TestP81AllBases compares results with all bases of small programs.
func TestP81AllBases(t *testing.T) {
	g := generator(812)
	kinds := map[uint8]int{}
	for i := range 1200 {
		p := tied(g)
		if i%3 == 0 {
			p = randomP(g)
		}
		r := solved(t, formP(p, g.IntN(4)))
		kinds[r.Kind]++
		x, found := best(p)
		if found != (r.Kind != api.Infeasible) {
			t.Errorf("a feasible basis is found: %t, but Solve returns kind %d for %s", found, r.Kind, text(p))
		}
		if r.Kind == api.Optimal {
			wantV(t, "the optimal point of "+text(p), r.X, x)
		}
	}
	wantKinds(t, kinds, 200)
}

// wantKinds makes sure that all kinds are frequent.
func wantKinds(t *testing.T, kinds map[uint8]int, least int) {
	t.Helper()
	for kind := api.Optimal; kind <= api.Unbounded; kind++ {
		if kinds[kind] < least {
			t.Errorf("%d programs have kind %d, want %d", kinds[kind], kind, least)
		}
	}
}

// middling returns a program with up to 9 variables and 13 constraints, most of whose elements are not 0.
func middling(g *rand.Rand) api.LP {
	p := api.LP{Vars: 1 + g.IntN(9)}
	size := []int64{1, 3, 9, 1000}[g.IntN(4)]
	for range 1 + g.IntN(api.MaxObjectives) {
		p.Objectives = append(p.Objectives, ints(g, p.Vars, -size, size))
	}
	inner := ints(g, p.Vars, 0, size)
	contradicts := g.IntN(3) == 0
	for range 1 + g.IntN(13) {
		row := ints(g, p.Vars, -size, size)
		bound := frac.Add(dot(row, inner), frac.FromInt64(g.Int64N(size+1)))
		if contradicts {
			bound = frac.FromInt64(g.Int64N(2*size) - size)
		}
		p.Rows, p.Bounds = append(p.Rows, row), append(p.Bounds, bound)
	}
	if g.IntN(2) == 0 {
		// Within these limits nothing is unbounded.
		p.Rows, p.Bounds = append(p.Rows, vectorOf(p.Vars, "1")), append(p.Bounds, frac.FromInt64(int64(p.Vars)*size))
	}
	return p
}

func TestP81Middling(t *testing.T) {
	g := generator(813)
	kinds := map[uint8]int{}
	for range 1500 {
		kinds[solved(t, formP(middling(g), g.IntN(4))).Kind]++
	}
	wantKinds(t, kinds, 150)
}

// TestP81Equations solves assignment problems, which are degenerate and consist of dependent equations.
func TestP81Equations(t *testing.T) {
	g := generator(814)
	for n := 1; n*n <= api.MaxCols; n++ {
		for range 3 {
			p := api.LP{Vars: n * n, Objectives: [][]api.Q{ints(g, n*n, -3, 3), ints(g, n*n, -1, 1)}}
			for i := range n {
				across, down := make([]api.Q, n*n), make([]api.Q, n*n)
				for k := range n {
					across[i*n+k], down[k*n+i] = q("1"), q("1")
				}
				p, _ = lp.AddEquation(p, across, q("1"))
				p, _ = lp.AddEquation(p, down, q("1"))
			}
			r := solved(t, p)
			for _, x := range r.X {
				// All corners are whole numbers, and only one assignment is the best one.
				if s := frac.Format(x); s != "0" && s != "1" {
					t.Fatalf("an assignment has the part %s", s)
				}
			}
		}
	}
}
