package lp_test

import (
	"math/rand/v2"
	"slices"
	"testing"

	"pylon/api"
	"pylon/frac"
	"pylon/lp"
)

func TestP64DualOfDual(t *testing.T) {
	g := generator(641)
	l := []api.LP{sample(), program(3, "1 2;", "", ""), program(0, "; ;", "; ; ;", "1 -2 0"), program(0, ";", "", ""), program(4, "; 1;", ";", "1/2")}
	for _, size := range [][2]int{{api.MaxCols, api.MaxCols}, {api.MaxCols, 1}, {1, api.MaxCols}, {api.MaxCols, 0}, {0, api.MaxCols}} {
		p, _ := sized(size[0], size[1])
		l = append(l, p)
	}
	for range 500 {
		l = append(l, randomP(g))
	}
	for i, p := range l {
		d, e := lp.Dual(formP(p, i%4))
		twice, e2 := lp.Dual(d)
		if e != api.OK {
			t.Errorf("Dual of %s returns error %d", text(p), e)
		}
		first := p
		first.Objectives = p.Objectives[:1]
		wantP(t, "the dual of the dual of "+text(p), twice, first, e2)
		single, e := lp.SingleObjective(p, 0)
		if e != api.OK || !lp.Equal(twice, single) {
			t.Errorf("the dual of the dual is (%s), and with its first objective only the program is (%s)", text(twice), text(single))
		}
	}
}

// A pair is a program with feasible points of itself and of its dual.
type pair struct {
	p, dual api.LP
	x, y    []api.Q
}

// randomPair returns a pair. If it is tight, only constraints without a price have slack, and only variables that are 0 cost more than they gain.
func randomPair(t *testing.T, g *rand.Rand, tight bool) pair {
	t.Helper()
	vars := g.IntN(5)
	p := api.LP{Vars: vars, Objectives: [][]api.Q{nil, randomV(g, vars)}}
	x, y := positiveV(g, vars), positiveV(g, g.IntN(6))
	spare := func(other api.Q) api.Q {
		if tight && frac.Sign(other) != 0 {
			return api.Q{}
		}
		return frac.Abs(randomQ(g))
	}
	for _, price := range y {
		row := randomV(g, vars)
		p.Rows, p.Bounds = append(p.Rows, row), append(p.Bounds, frac.Add(dot(row, x), spare(price)))
	}
	for k, value := range x {
		var column []api.Q
		for _, row := range p.Rows {
			column = append(column, row[k])
		}
		p.Objectives[0] = append(p.Objectives[0], frac.Sub(dot(column, y), spare(value)))
	}
	dual, e := lp.Dual(formP(p, g.IntN(4)))
	if e != api.OK || !lp.Feasible(p, x) || !lp.Feasible(dual, y) {
		t.Fatalf("Dual returns error %d; (%s) is a feasible point of (%s): %t; (%s) is one of (%s): %t", e, show(x), text(p), lp.Feasible(p, x), show(y), text(dual), lp.Feasible(dual, y))
	}
	return pair{p, dual, x, y}
}

func TestP64WeakDuality(t *testing.T) {
	g, less := generator(642), 0
	for range 1500 {
		l := randomPair(t, g, false)
		value, bound := lp.Evaluate(l.p, l.x)[0], dot(l.p.Bounds, l.y)
		if frac.Cmp(value, bound) > 0 {
			t.Errorf("(%s) has the value %s in (%s), and the dual point (%s) the bound %s", show(l.x), frac.Format(value), text(l.p), show(l.y), frac.Format(bound))
		}
		wantV(t, "the value of a dual point", lp.Evaluate(l.dual, l.y), []api.Q{frac.Neg(bound)})
		if frac.Cmp(value, bound) < 0 {
			less++
		}
	}
	if less < 300 {
		t.Errorf("%d of 1500 values are less than their bounds", less)
	}
}

func TestP64EqualValues(t *testing.T) {
	g, others := generator(643), 0
	for range 1500 {
		l := randomPair(t, g, true)
		best, e := lp.SingleObjective(l.p, 0)
		if e != api.OK {
			t.Fatalf("SingleObjective returns error %d for %s", e, text(l.p))
		}
		wantV(t, "the value and the negated bound", slices.Concat(lp.Evaluate(best, l.x), lp.Evaluate(l.dual, l.y)), []api.Q{dot(l.p.Bounds, l.y), frac.Neg(dot(l.p.Bounds, l.y))})
		for range 30 {
			// Points near x are feasible more often than others.
			other := slices.Clone(l.x)
			for k := range other {
				if g.IntN(2) == 0 {
					other[k] = frac.Max(api.Q{}, frac.Add(other[k], randomQ(g)))
				}
			}
			if !lp.Feasible(best, other) {
				continue
			}
			others++
			if frac.Cmp(lp.Evaluate(best, other)[0], lp.Evaluate(best, l.x)[0]) > 0 {
				t.Errorf("(%s) is better than (%s) in (%s), but (%s) is a dual point of equal value", show(other), show(l.x), text(best), show(l.y))
			}
		}
	}
	if others < 3000 {
		t.Errorf("%d other points are feasible", others)
	}
}

// TestP64Example follows the example of the chapter.
func TestP64Example(t *testing.T) {
	p := sample()
	d, e := lp.Dual(p)
	x, y := v("2 6"), v("0 3/2 1")
	if e != api.OK || !lp.Feasible(p, x) || !lp.Feasible(d, y) {
		t.Errorf("Dual returns error %d; is (2, 6) feasible: %t; is (0, 3/2, 1): %t", e, lp.Feasible(p, x), lp.Feasible(d, y))
	}
	wantV(t, "the values of both points", slices.Concat(lp.Evaluate(p, x), lp.Evaluate(d, y)), v("36 -4 -36"))
	for a := range int64(6) {
		for b := range int64(9) {
			other := []api.Q{frac.FromInt64(a), frac.FromInt64(b)}
			if lp.Feasible(p, other) && lp.Compare(p, x, other) < 0 {
				t.Errorf("(%s) is better than (%s)", show(other), show(x))
			}
		}
	}
}
