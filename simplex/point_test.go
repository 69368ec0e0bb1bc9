package simplex_test

import (
	"testing"

	"pylon/api"
	"pylon/simplex"
)

// outcomes are programs whose kinds are known, with their optimal points.
var outcomes = []struct {
	vars                    int
	objectives, rows, bound string
	kind                    uint8
	x                       string
}{
	{2, "3 5;", "1; 0 2; 3 2;", "4 12 18", api.Optimal, "2 6"}, {1, "0;", "-1;", "-3", api.Optimal, "3"}, {0, "; ;", "; ;", "0 1", api.Optimal, ""}, {3, ";", "", "", api.Optimal, "0 0 0"}, {3, "-1;", "-1 -1; 0 1;", "-2 3/2", api.Optimal, "1/2 3/2 0"},
	{4, "1; 0 1; ; 0 0 1;", "1 1 1; 0 1;", "5 3/2", api.Optimal, "5 0 0 0"}, {4, "; 0 1; 0 0 1 1;", "1 1 1 1; 0 1;", "5 3/2", api.Optimal, "0 3/2 0 7/2"}, {2, "-1 -1;", "-1; 0 -1;", "-1/18446744073709551616 -7", api.Optimal, "1/18446744073709551616 7"},
	{1, "1;", "1;", "-1", api.Infeasible, ""}, {0, ";", "; ;", "0 -1", api.Infeasible, ""}, {2, "1 1; 1;", "1 1; -1 -1;", "1 -2", api.Infeasible, ""}, {3, "1;", "1; -1;", "1/3 -1/2", api.Infeasible, ""}, {3, "0 1;", ";", "-1", api.Infeasible, ""},
	{2, "1;", "-1 1;", "2", api.Unbounded, ""}, {1, "1;", "", "", api.Unbounded, ""}, {3, "-1; 0 1;", "-1 0 1; 0 0 -1;", "-2 -3", api.Unbounded, ""}, {3, ";;; 1 1 1;", "1 0 0; 0 -1; 0 0 1;", "7/3 -9 2", api.Unbounded, ""},
}

// wantOutcome checks FeasiblePoint and Optimum of a program of a kind, and with an optimal point if it has one.
func wantOutcome(t *testing.T, p api.LP, kind uint8, x []api.Q) {
	t.Helper()
	point, is, e := simplex.FeasiblePoint(p)
	wantV(t, "a feasible point", point, point)
	if wanted := kind != api.Infeasible; e != api.OK || is != wanted || is && !isPoint(p, point) || !is && len(point) > 0 {
		t.Errorf("FeasiblePoint returns (%s), %t and error %d for %s", show(point), is, e, text(p))
	}
	best, amounts, e := simplex.Optimum(p)
	want := map[uint8]api.Errno{api.Optimal: api.OK, api.Infeasible: api.ErrNone, api.Unbounded: api.ErrUnbounded}[kind]
	if e != want || e != api.OK && len(best)+len(amounts) > 0 {
		t.Errorf("Optimum returns (%s), (%s) and error %d, want error %d for %s", show(best), show(amounts), e, want, text(p))
	}
	if kind == api.Optimal {
		wantV(t, "the optimal point", best, x)
		wantV(t, "the objective values", amounts, values(p, x))
	}
}

func TestP82Outcomes(t *testing.T) {
	for _, x := range outcomes {
		for _, form := range forms(program(x.vars, x.objectives, x.rows, x.bound)) {
			wantOutcome(t, form, x.kind, v(x.x))
		}
	}
	_, amounts, _ := simplex.Optimum(sample())
	wantV(t, "the objective values of the example", amounts, v("36"))
}

func TestP82NotValid(t *testing.T) {
	for _, p := range notValid() {
		for _, form := range forms(p) {
			if x, is, e := simplex.FeasiblePoint(form); e != api.ErrArg || is || len(x) > 0 {
				t.Errorf("FeasiblePoint returns (%s), %t and error %d for %s", show(x), is, e, text(p))
			}
			if x, amounts, e := simplex.Optimum(form); e != api.ErrArg || len(x)+len(amounts) > 0 {
				t.Errorf("Optimum returns (%s), (%s) and error %d for %s", show(x), show(amounts), e, text(p))
			}
		}
	}
}

func TestP82Limits(t *testing.T) {
	p := largest()
	wantOutcome(t, p, api.Optimal, solved(t, p).X)
	wantOutcome(t, api.LP{Vars: api.MaxCols, Objectives: p.Objectives}, api.Unbounded, nil)
	p.Rows[api.MaxRows-1], p.Bounds[api.MaxRows-1] = vectorOf(api.MaxCols, "-1"), q("-4000")
	wantOutcome(t, p, api.Infeasible, nil)
}

func TestP82Random(t *testing.T) {
	g := generator(821)
	kinds := map[uint8]int{}
	for i := range 900 {
		p := randomP(g)
		if i%3 == 0 {
			p = middling(g)
		}
		r := solved(t, p)
		kinds[r.Kind]++
		wantOutcome(t, formP(p, g.IntN(4)), r.Kind, r.X)
	}
	wantKinds(t, kinds, 150)
}
