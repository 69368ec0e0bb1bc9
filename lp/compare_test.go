package lp_test

import (
	"math"
	"testing"

	"pylon/api"
	"pylon/frac"
	"pylon/lp"
)

// wantOrder checks Compare for all forms of two points, in both orders.
func wantOrder(t *testing.T, p api.LP, x, y []api.Q, want int) {
	t.Helper()
	for manner, form := range forms(p) {
		for _, a := range formsV(x) {
			b := formsV(y)[manner]
			if got := lp.Compare(form, a, b); got != want {
				t.Errorf("Compare = %d for (%s), (%s) and %s, want %d", got, show(x), show(y), text(p), want)
			}
			if got := lp.Compare(form, b, a); got != -want {
				t.Errorf("Compare = %d for (%s), (%s) and %s, want %d", got, show(y), show(x), text(p), -want)
			}
		}
	}
}

func TestP61Compare(t *testing.T) {
	two := program(3, "1 1; 0 0 1;", "", "")
	for _, x := range []struct {
		p         api.LP
		better, y string
	}{
		// The objective values decide, the first ones first.
		{sample(), "2 6", "4 3"}, {sample(), "1", ""}, {sample(), "0 1", "1"}, {sample(), "5", "0 2"}, {two, "1 1", "1 0 9"}, {two, "0 2", "1 0 9"}, {two, "1 1 2", "2 0 1"}, {two, "9 -8 2", "0 1 1"}, {two, "2 0 1/2", "0 2 1/3"},
		{program(1, "-1;", "", ""), "1", "2"}, {program(1, "-1;", "", ""), "", "1/18446744073709551616"}, {program(2, "0; 0; 0; 0 1;", "", ""), "5 2", "1 1"}, {program(2, "1; 0 1; 1 -1;", "", ""), "2 1", "2"},
		{program(2, "1/3 1/2;", "", ""), "0 3", "4"}, {program(1, "18446744073709551616;", "", ""), "18446744073709551617/18446744073709551616", "1"}, {program(2, "1; -1;", "", ""), "2", "1"},
		// Where they are equal, the point that is less is better.
		{two, "0 2 1", "2 0 1"}, {two, "0 2 1", "1 1 1"}, {two, "1 1", "2"}, {two, "-1 2", "0 1"}, {program(2, "0;", "", ""), "", "0 1"}, {program(2, "0;", "", ""), "1", "1 1"}, {program(2, "0;", "", ""), "0 5", "1"}, {program(2, "0;", "", ""), "1 -1", "1"},
		{program(2, "0;", "", ""), "-1 5", ""}, {program(2, "3 -3;", "", ""), "1/3 1/3", "1/2 1/2"}, {program(3, "0 1;", "", ""), "1 2 3", "1 2 4"}, {program(3, "0 1;", "", ""), "1 2 4", "2 2 3"},
		// Neither constraints nor sizes matter; all elements do.
		{sample(), "100 100", "2 6"}, {sample(), "1", "-1"}, {program(1, "1;", "1;", "-5"), "2", "1"}, {program(1, "1 1;", "", ""), "0 5", "1"}, {program(1, "1 0 1;", "", ""), "0 0 1", ""}, {program(-4, "1;", "1;", ""), "2", "1"}, {program(-4, "0 1;", "1;", ""), "2 1", "3 1"},
		{program(2, "1;", "1; 1;", "1"), "2", "1"}, {program(2, "1;", "", "1"), "2", "1"}, {program(0, ";", "", ""), "1", "2"}, {program(0, "1;", "", ""), "2", "1"}, {program(math.MaxInt, "1;", "", ""), "2", "1"}, {program(math.MinInt, "1;", "", ""), "2", "1"},
		{program(2, "", "", ""), "1 2", "1 3"}, {api.LP{}, "1", "2"}, {api.LP{}, "-1", ""}, {program(2, "1; 1; 1; 1; 1; 0 1;", "", ""), "1 5", "1 4"}, {program(1, "0;", "", ""), "1 1", "1 1 1"},
	} {
		wantOrder(t, x.p, v(x.better), v(x.y), 1)
	}
}

func TestP61CompareEqual(t *testing.T) {
	for _, p := range []api.LP{sample(), program(2, "0;", "1;", "1"), program(0, ";", "", ""), program(-1, "1 1 1;", "1;", ""), {}} {
		for _, x := range []struct{ x, y string }{
			{"", ""}, {"", "0"}, {"", "0 0 0"}, {"0", "0 0"}, {"1", "1"}, {"1 2", "1 2"}, {"1 2", "1 2 0 0"}, {"-1 1/3", "-1 1/3 0"}, {"0 0 5", "0 0 5"},
		} {
			wantOrder(t, p, v(x.x), v(x.y), 0)
		}
	}
}

// TestP61CompareRandom also checks points of equal value, which differ by a vector that no objective sees.
func TestP61CompareRandom(t *testing.T) {
	g, ties := generator(613), 0
	for range 3000 {
		p, x := anyP(g), randomV(g, 1+g.IntN(4))
		y := randomV(g, g.IntN(5))
		if g.IntN(2) == 0 {
			y = append([]api.Q{}, x...)
			unseen := g.IntN(len(x))
			for _, objective := range p.Objectives {
				if unseen < len(objective) && g.IntN(5) > 0 {
					objective[unseen] = api.Q{}
				}
			}
			y[unseen] = randomQ(g)
		}
		want := 0
		for k := max(len(x), len(y)) - 1; k >= 0; k-- {
			if order := frac.Sign(frac.Sub(at(y, k), at(x, k))); order != 0 {
				want = order
			}
		}
		tie := true
		for i := len(p.Objectives) - 1; i >= 0; i-- {
			if order := frac.Sign(frac.Sub(dot(p.Objectives[i], x), dot(p.Objectives[i], y))); order != 0 {
				want, tie = order, false
			}
		}
		if tie && want != 0 {
			ties++
		}
		wantOrder(t, p, x, y, want)
	}
	if ties < 300 {
		t.Errorf("%d pairs of points have equal values", ties)
	}
}
