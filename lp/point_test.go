package lp_test

import (
	"math"
	"math/rand/v2"
	"slices"
	"testing"

	"pylon/api"
	"pylon/frac"
	"pylon/lp"
)

// wantFeasible checks Feasible for all forms of a program and a point.
func wantFeasible(t *testing.T, p api.LP, x []api.Q, want bool) {
	t.Helper()
	for _, form := range forms(p) {
		for _, point := range formsV(x) {
			if got := lp.Feasible(form, point); got != want {
				t.Errorf("Feasible = %t for (%s) and %s", got, show(x), text(p))
			}
		}
	}
}

func TestP61Feasible(t *testing.T) {
	for _, x := range []struct {
		p        api.LP
		yes, not string
	}{
		// Points that end before the last variable, that meet constraints exactly, that break each of them, with negative elements, and that are too long.
		{sample(), "; 0; 0 0; 2 6; 4 3; 4; 0 6; 1 1; 10/3 4;", "5; 4 4; 2 7; 0 7; 3 5; 18446744073709551617/4611686018427387904; 4 55340232221128654849/18446744073709551616; -1; 0 -1; -1 -1; 1 -1/3; -1/18446744073709551616 1; 2 6 0; 0 0 0; 0 0 0 0; 2 6 1;"},
		{program(3, ";", "", ""), "; 0; 0 0 0; 5 1/2 7; 0 18446744073709551616;", "-1; 0 -1; 0 0 -1; 1 2 -3; -1 2 3; 1 -1/9 3; 0 0 0 0; 1 2 3 4;"},
		// Where a constraint demands something, missing elements do not give it.
		{program(2, "1;", "-1; 0 -1;", "-1 -2"), "1 2; 3/2 2; 5 5;", "; 1; 2; 1 1; 0 2; 1/2 2; 1 2 0;"},
		{program(3, "1;", "-1 1; 0 -1 1;", "0 0"), "; 0; 1 1 1; 3 2 1; 3 2; 3; 1/2 1/3 1/4;", "0 1; 1 2; 1 1 2; 2 1 3/2; 0 0 1; 3 4 4;"},
		{program(1, "1;", "1/3;", "1/7"), "3/7; 2/7; 0;", "1; 4/7; 31/70;"},
		{program(1, "1;", "1; -1;", "2 -2"), "2;", "; 1; 3; 19/10; 21/10; 36893488147419103233/18446744073709551616;"},
		{program(1, "1;", "1; -1;", "2 -3"), "", "; 1; 2; 3; 5/2;"},
		// Each constraint counts, also among many that hold.
		{program(1, "1;", "1; 1; 1; 1;", "9 9 9 3"), "3;", "4;"}, {program(1, "1;", "1; 1; 1; 1;", "3 9 9 9"), "3;", "4;"}, {program(1, "1;", "1; 1; 1; 1;", "9 9 3 9"), "3;", "4;"},
		// Constraints without elements.
		{program(2, "1;", "; 0; 0 0;", "0 0 0"), "; 7 7;", "-7; 0 0 0;"}, {program(2, "1;", "; 1;", "-1 5"), "", "; 0; 1 1;"}, {program(2, "1;", "1; 0 0;", "5 -1/5"), "", "; 0; 1 1;"},
		// No variables.
		{program(0, ";", "", ""), ";", "0; 1; -1;"}, {program(0, ";", "; ;", "0 3"), ";", "0;"}, {program(0, ";", "; ; ;", "0 -1 3"), "", "; 0;"},
	} {
		for _, point := range m(x.yes) {
			wantFeasible(t, x.p, point, true)
		}
		for _, point := range m(x.not) {
			wantFeasible(t, x.p, point, false)
		}
	}
}

// No point of a program that is not valid is feasible, even where it meets all constraints that there are.
func TestP61FeasibleNotValid(t *testing.T) {
	for _, p := range notValid() {
		for _, x := range m("; 0; 0 0; 1; 1/2 1/2; 0 0 0; -1;") {
			wantFeasible(t, p, x, false)
		}
	}
}

func TestP61FeasibleLargest(t *testing.T) {
	p, x := largest(), make([]api.Q, api.MaxCols)
	for k := range x {
		x[k] = frac.FromInt64(int64(k))
	}
	wantFeasible(t, p, x, true)
	wantFeasible(t, p, x[:api.MaxCols-1], true)
	wantFeasible(t, p, append(x[:api.MaxCols:api.MaxCols], api.Q{}), false)
	for k, most := range x {
		for _, not := range []api.Q{frac.Add(most, q("1/1000")), q("-1/1000")} {
			x[k] = not
			if lp.Feasible(p, x) {
				t.Errorf("a point with the element %s at index %d is feasible, which is to be at most %d", frac.Format(not), k, k)
			}
		}
		x[k] = most
	}
	x[api.MaxCols-1] = api.Q{}
	p.Bounds[api.MaxRows-1] = q("-1/1000")
	wantFeasible(t, p, x, false)
}

func TestP61FeasibleRandom(t *testing.T) {
	g, feasible := generator(611), 0
	for range 4000 {
		p, x := randomP(g), randomV(g, g.IntN(6))
		if g.IntN(2) == 0 {
			x = positiveV(g, g.IntN(p.Vars+1))
		}
		want := len(x) <= p.Vars
		for _, value := range x {
			want = want && frac.Sign(value) >= 0
		}
		for i, row := range p.Rows {
			if left := dot(row, x); g.IntN(3) > 0 {
				// Otherwise few points would be feasible.
				p.Bounds[i] = frac.Add(left, frac.FromInt64(g.Int64N(3)))
			}
			want = want && frac.Sign(frac.Sub(p.Bounds[i], dot(row, x))) >= 0
		}
		if want {
			feasible++
		}
		if got := lp.Feasible(formP(p, g.IntN(4)), formV(x, g.IntN(4))); got != want {
			t.Errorf("Feasible = %t for (%s) and %s", got, show(x), text(p))
		}
	}
	if feasible < 800 || feasible > 3200 {
		t.Errorf("%d of 4000 points are feasible", feasible)
	}
}

// wantValues checks Evaluate and Slack for all forms of a program and a point.
func wantValues(t *testing.T, p api.LP, x, values, slack []api.Q) {
	t.Helper()
	for _, form := range forms(p) {
		for _, point := range formsV(x) {
			name := " at (" + show(x) + ") for " + text(p)
			wantV(t, "Evaluate"+name, lp.Evaluate(form, point), values)
			wantV(t, "Slack"+name, lp.Slack(form, point), slack)
		}
	}
}

func TestP61Values(t *testing.T) {
	for _, x := range []struct {
		p                api.LP
		x, values, slack string
	}{
		{sample(), "2 6", "36 -4", "2 0 0"}, {sample(), "", "0 0", "4 12 18"}, {sample(), "1", "3 1", "3 12 15"}, {sample(), "0 1", "5 -1", "4 10 16"}, {sample(), "1/3 1/5", "2 2/15", "11/3 58/5 83/5"},
		// Points that are not feasible.
		{sample(), "5 7", "50 -2", "-1 -2 -11"}, {sample(), "-1 -1/2", "-11/2 -1/2", "5 13 22"}, {sample(), "2 6 9 9", "36 -4", "2 0 0"}, {sample(), "0 0 0", "0 0", "4 12 18"},
		// Sums that are 0 and numbers of several words.
		{program(2, "1 -1; -1/2 1/2;", "1 -1; 2 -2;", "0 1/2"), "1/3 1/3", "0 0", "0 1/2"}, {program(1, "18446744073709551616;", "1/18446744073709551616;", "1"), "18446744073709551616", "340282366920938463463374607431768211456", "0"},
		// No objectives, too many, and no constraints.
		{program(2, "", "1; 0 1;", "1 1"), "1/2 2", "", "1/2 -1"}, {program(2, "1; 0 1; 1 1; ; 2; 0 0 9;", "", ""), "3 4", "3 4 7 0 6 0", ""}, {api.LP{}, "1 2 3", "", ""}, {api.LP{}, "", "", ""},
		{program(0, "; ;", "; ;", "1 -1"), "", "0 0", "1 -1"}, {program(0, "; ;", "; ;", "1 -1"), "5", "0 0", "1 -1"},
		// The number of variables does not matter, nor does what is too long.
		{program(1, "1 2 3; 0 0 4;", "1 2 3; 0 0 5;", "10 11"), "1 1 2", "9 8", "1 1"}, {program(-7, "1 2;", "3 4;", "5"), "1 2", "5", "-6"}, {program(math.MaxInt, "1 2;", "3 4;", "5"), "1 2", "5", "-6"}, {program(math.MinInt, "1 2;", "3 4;", "5"), "1 2", "5", "-6"},
		// Right-hand sides that are missing, and more of them than constraints.
		{program(2, "1;", "1; 0 1; 1 1;", ""), "2 3", "2", "-2 -3 -5"}, {program(2, "1;", "1; 0 1; 1 1;", "7"), "2 3", "2", "5 -3 -5"}, {program(2, "1;", "1; 0 1; -1 -1;", "7 8"), "2 3", "2", "5 5 5"},
		{program(2, "1;", "1; 0 1;", "7 8 9"), "2 3", "2", "5 5"}, {program(2, "1;", "", "7 8 9"), "2 3", "2", ""}, {program(2, "1;", "; ;", "1/2"), "2 3", "2", "1/2 0"},
	} {
		wantValues(t, x.p, v(x.x), v(x.values), v(x.slack))
	}
}

func TestP61ValuesLargest(t *testing.T) {
	p, x := largest(), make([]api.Q, api.MaxCols)
	var values, slack []api.Q
	for k := range x {
		x[k] = frac.FromInt64(int64(k * k))
	}
	for i := range api.MaxObjectives {
		mirrored := api.MaxCols - 1 - i
		values = append(values, frac.FromInt64(int64(2*i*i+i*mirrored*mirrored)))
	}
	for i := range api.MaxRows {
		k := i % api.MaxCols
		slack = append(slack, frac.FromInt64(int64(i-k*k)))
	}
	wantValues(t, p, x, values, slack)
}

// Evaluate, Slack and Compare have no limits, not even those of package vec.
func TestP61LongPoints(t *testing.T) {
	n := 65536 + 3
	long, x := make([]api.Q, n), make([]api.Q, n)
	long[n-1], x[0], x[n-1] = q("1/2"), q("5"), q("6")
	p := api.LP{Vars: 1, Objectives: [][]api.Q{nil, long}, Rows: [][]api.Q{v("1"), long}, Bounds: v("4")}
	wantV(t, "Evaluate", lp.Evaluate(p, x), v("0 3"))
	wantV(t, "Slack", lp.Slack(p, x), v("-1 -3"))
	if got := lp.Compare(p, x, x[:n-1]); got != 1 {
		t.Errorf("Compare = %d for a point with a better last element", got)
	}
	p.Objectives = nil
	if got := lp.Compare(p, x, x[:n-1]); got != -1 {
		t.Errorf("Compare = %d for a point with a greater last element and no objectives", got)
	}
}

func TestP61LongPrograms(t *testing.T) {
	n := 65536 + 3
	p := api.LP{Vars: 1, Objectives: repeated(n, "1"), Rows: repeated(n, "2"), Bounds: slices.Repeat(v("7"), n)}
	p.Objectives[n-1], p.Rows[n-1] = v("0 -1"), v("0 3")
	values, slack := slices.Repeat(v("5"), n), slices.Repeat(v("-3"), n)
	values[n-1], slack[n-1] = q("-6"), q("-11")
	wantV(t, "Evaluate", lp.Evaluate(p, v("5 6")), values)
	wantV(t, "Slack", lp.Slack(p, v("5 6")), slack)
	p.Bounds, slack[n-1] = p.Bounds[:n-1], q("-18")
	wantV(t, "Slack without the last right-hand side", lp.Slack(p, v("5 6")), slack)
	if got := lp.Compare(p, v("5 6"), v("5 7")); got != 1 {
		t.Errorf("Compare = %d for a point with a better last value", got)
	}
}

// anyP returns a program with sizes that need not be valid.
func anyP(g *rand.Rand) api.LP {
	p := api.LP{Vars: g.IntN(8) - 2}
	for range g.IntN(7) {
		p.Objectives = append(p.Objectives, randomV(g, g.IntN(5)))
	}
	for range g.IntN(7) {
		p.Rows = append(p.Rows, randomV(g, g.IntN(5)))
	}
	p.Bounds = randomV(g, g.IntN(7))
	return p
}

func TestP61ValuesRandom(t *testing.T) {
	g := generator(612)
	for range 2000 {
		p, x := anyP(g), randomV(g, g.IntN(6))
		var values, slack []api.Q
		for _, objective := range p.Objectives {
			values = append(values, dot(objective, x))
		}
		for i, row := range p.Rows {
			slack = append(slack, frac.Sub(at(p.Bounds, i), dot(row, x)))
		}
		form, point := formP(p, g.IntN(4)), formV(x, g.IntN(4))
		wantV(t, "Evaluate", lp.Evaluate(form, point), values)
		wantV(t, "Slack", lp.Slack(form, point), slack)
	}
}
