package simplex_test

import (
	"slices"
	"testing"

	"pylon/api"
	"pylon/frac"
	"pylon/simplex"
)

// flaw tells which of the properties that the chapter gives for its kind a result of a valid program lacks; it is empty if there is none.
func flaw(p api.LP, r api.Result) string {
	if r.Pivots < 0 {
		return "Pivots is negative"
	}
	for _, a := range append(slices.Clone(r.Y), r.X, r.Ray, r.Farkas) {
		if slices.ContainsFunc(a, func(x api.Q) bool { return !frac.IsCanonical(x) }) {
			return "an element is not canonical"
		}
	}
	switch r.Kind {
	case api.Optimal:
		if len(r.Ray)+len(r.Farkas) > 0 {
			return "a field of another kind is not empty"
		}
		return flawOptimal(p, r)
	case api.Infeasible:
		if len(r.X)+len(r.Y)+len(r.Ray) > 0 {
			return "a field of another kind is not empty"
		}
		return flawInfeasible(p, r)
	case api.Unbounded:
		if len(r.Y)+len(r.Farkas) > 0 {
			return "a field of another kind is not empty"
		}
		return flawUnbounded(p, r)
	}
	return "the kind does not exist"
}

func flawOptimal(p api.LP, r api.Result) string {
	size := len(p.Objectives) + p.Vars
	if !isPoint(p, r.X) {
		return "X is not a feasible point"
	}
	if len(r.Y) != len(p.Rows) {
		return "the number of price vectors is wrong"
	}
	for _, y := range r.Y {
		if len(y) != size {
			return "the length of a price vector is wrong"
		}
		if sign(y) < 0 {
			return "a price vector is negative"
		}
	}
	for k := range p.Vars {
		value := make([]api.Q, size)
		for i, objective := range p.Objectives {
			value[i] = at(objective, k)
		}
		value[len(p.Objectives)+k] = q("-1")
		var weights []api.Q
		for _, row := range p.Rows {
			weights = append(weights, at(row, k))
		}
		if sign(minus(sum(weights, r.Y, size), value)) < 0 {
			return "a variable is worth more than it is priced"
		}
	}
	if sign(minus(sum(p.Bounds, r.Y, size), full(p, r.X))) != 0 {
		return "the prices do not add up to the value"
	}
	return ""
}

func flawInfeasible(p api.LP, r api.Result) string {
	switch {
	case len(r.Farkas) != len(p.Rows):
		return "the length of Farkas is wrong"
	case hasNegative(r.Farkas):
		return "Farkas has a negative element"
	case hasNegative(sum(r.Farkas, p.Rows, p.Vars)):
		return "the sum of the constraints has a negative element"
	case frac.Sign(dot(r.Farkas, p.Bounds)) >= 0:
		return "the sum of the right-hand sides is not negative"
	}
	return ""
}

func flawUnbounded(p api.LP, r api.Result) string {
	switch {
	case !isPoint(p, r.X):
		return "X is not a feasible point"
	case len(r.Ray) != p.Vars:
		return "the length of the ray is wrong"
	case hasNegative(r.Ray):
		return "the ray has a negative element"
	case sign(values(p, r.Ray)) <= 0:
		return "the ray gains nothing"
	}
	for _, row := range p.Rows {
		if frac.Sign(dot(row, r.Ray)) > 0 {
			return "the ray leaves the feasible points"
		}
	}
	return ""
}

// solved returns the result of a valid program, after checking all its properties.
func solved(t *testing.T, p api.LP) api.Result {
	t.Helper()
	r, e := simplex.Solve(p)
	if e != api.OK {
		t.Fatalf("Solve returns error %d for %s", e, text(p))
	}
	if s := flaw(p, r); s != "" {
		t.Fatalf("%s: Solve returns kind %d, X = (%s), Y = (%s), Ray = (%s), Farkas = (%s), Pivots = %d for %s", s, r.Kind, show(r.X), list(r.Y), show(r.Ray), show(r.Farkas), r.Pivots, text(p))
	}
	return r
}

// wantOptimal, wantInfeasible and wantUnbounded check what is known of a program in all its forms.
func wantOptimal(t *testing.T, p api.LP, x string) {
	t.Helper()
	for _, form := range forms(p) {
		r := solved(t, form)
		if r.Kind != api.Optimal {
			t.Fatalf("Solve returns kind %d, want an optimal point for %s", r.Kind, text(p))
		}
		wantV(t, "the optimal point of "+text(p), r.X, v(x))
	}
}
func wantKind(t *testing.T, p api.LP, kind uint8) {
	t.Helper()
	for _, form := range forms(p) {
		if r := solved(t, form); r.Kind != kind {
			t.Errorf("Solve returns kind %d, want %d for %s", r.Kind, kind, text(p))
		}
	}
}

// TestP81Flaws makes sure that the check of results finds flaws.
func TestP81Flaws(t *testing.T) {
	optimal, infeasible, unbounded := sample(), program(2, "1;", "1 1; -1;", "1 -2"), program(2, "1;", "-1 1; 0 1;", "2 5")
	y := "0 0 0; 3/2 1/3 -1/2; 1 -1/3 0;"
	for i, x := range []struct {
		p    api.LP
		r    api.Result
		good bool
	}{
		{optimal, api.Result{Kind: api.Optimal, X: v("2 6"), Y: m(y)}, true},
		{optimal, api.Result{Kind: api.Optimal, X: v("2 6"), Y: m(y), Pivots: -1}, false},
		{optimal, api.Result{Kind: api.Optimal, X: v("2 6"), Y: m(y), Ray: v("0")}, false},
		{optimal, api.Result{Kind: api.Optimal, X: v("2 6"), Y: m(y), Farkas: v("0")}, false},
		{optimal, api.Result{Kind: api.Optimal, X: v("2 6 0"), Y: m(y)}, false},
		{optimal, api.Result{Kind: api.Optimal, X: v("2 5"), Y: m(y)}, false},
		{optimal, api.Result{Kind: api.Optimal, X: v("5 6"), Y: m(y)}, false},
		{optimal, api.Result{Kind: api.Optimal, X: formV(v("2 6"), 0), Y: m(y)}, false},
		{optimal, api.Result{Kind: api.Optimal, X: v("2 6"), Y: m(y)[:2]}, false},
		{optimal, api.Result{Kind: api.Optimal, X: v("2 6"), Y: m("0; 3/2; 1;")}, false},
		{optimal, api.Result{Kind: api.Optimal, X: v("2 6"), Y: m("0 -1 0; 3/2 1/3 -1/2; 1 -1/3 0;")}, false},
		{optimal, api.Result{Kind: api.Optimal, X: v("2 6"), Y: m("0 0 0; 3/2 1/3 -1/2; 1 -1/3 -1;")}, false},
		{optimal, api.Result{Kind: api.Optimal, X: v("2 6"), Y: m("0 0 1; 3/2 1/3 -1/2; 1 -1/3 0;")}, false},
		{optimal, api.Result{Kind: api.Infeasible, Farkas: v("0 0 0")}, false},
		{optimal, api.Result{}, false},
		{optimal, api.Result{Kind: 4}, false},
		{infeasible, api.Result{Kind: api.Infeasible, Farkas: v("1 1")}, true},
		{infeasible, api.Result{Kind: api.Infeasible, Farkas: v("1 1"), X: v("0 0")}, false},
		{infeasible, api.Result{Kind: api.Infeasible, Farkas: v("1 1 0")}, false},
		{infeasible, api.Result{Kind: api.Infeasible, Farkas: v("1 3/2")}, false},
		{infeasible, api.Result{Kind: api.Infeasible, Farkas: v("2 1")}, false},
		{infeasible, api.Result{Kind: api.Infeasible, Farkas: v("-1 -1")}, false},
		{unbounded, api.Result{Kind: api.Unbounded, X: v("0 0"), Ray: v("1 0")}, true},
		{unbounded, api.Result{Kind: api.Unbounded, X: v("0 0"), Ray: v("1 0"), Y: m("0; 0;")}, false},
		{unbounded, api.Result{Kind: api.Unbounded, X: v("0 3"), Ray: v("1 0")}, false},
		{unbounded, api.Result{Kind: api.Unbounded, X: v("0 0"), Ray: v("1")}, false},
		{unbounded, api.Result{Kind: api.Unbounded, X: v("0 0"), Ray: v("0 0")}, false},
		{unbounded, api.Result{Kind: api.Unbounded, X: v("0 0"), Ray: v("1 1")}, false},
		{unbounded, api.Result{Kind: api.Unbounded, X: v("0 0"), Ray: v("1 -1")}, false},
	} {
		if s := flaw(x.p, x.r); (s == "") != x.good {
			t.Errorf("case %d: the flaw is %q, want one: %t", i, s, !x.good)
		}
	}
}
