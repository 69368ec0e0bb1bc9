package lp_test

import (
	"testing"

	"pylon/api"
	"pylon/lp"
)

func TestP61Valid(t *testing.T) {
	l := []api.LP{sample(), largest()}
	for _, vars := range []int{0, 1, 2, api.MaxCols - 1, api.MaxCols} {
		l = append(l, program(vars, ";", "", ""), program(vars, "; ;", "; ; ;", "1 -1/2 0"))
	}
	for _, x := range []struct{ objectives, rows, bounds string }{
		{"3 5;", "", ""}, {"3 5; 1;", "", ""}, {"3 5; ; 1; 0 1;", "", ""}, {"; ; ; ;", "", ""},
		{"1;", "1;", "5"}, {"1;", "1 2; ; 3; 0 0;", "1 2 3 4"}, {"1;", "1; 1; 1; 1; 1;", "-1 -1/3 0 18446744073709551616 5"}, {"0 0; 0 0;", "0 0; 0 0;", "0 0"}, {"-1 -2;", "-1; 0 -2;", "-1 -2"},
	} {
		l = append(l, program(2, x.objectives, x.rows, x.bounds))
	}
	for _, n := range []int{api.MaxRows - 1, api.MaxRows} {
		l = append(l, api.LP{Vars: 1, Objectives: m("1;"), Rows: repeated(n, "1"), Bounds: make([]api.Q, n)})
	}
	for _, p := range l {
		for _, form := range forms(p) {
			if !lp.Valid(form) {
				t.Errorf("Valid(%s) = false", text(p))
			}
		}
	}
}

func TestP61NotValid(t *testing.T) {
	for _, p := range notValid() {
		for _, form := range forms(p) {
			if lp.Valid(form) {
				t.Errorf("Valid(%s) = true", text(p))
			}
		}
	}
}

// One size alone decides.
func TestP61ValidSizes(t *testing.T) {
	for vars := -2; vars <= api.MaxCols+2; vars++ {
		if got, want := lp.Valid(program(vars, ";", ";", "1")), vars >= 0 && vars <= api.MaxCols; got != want {
			t.Errorf("Valid of a program with %d variables = %t", vars, got)
		}
	}
	for n := range 3 * api.MaxObjectives {
		p := sample()
		p.Objectives = repeated(n, "1 2")
		if got, want := lp.Valid(p), n >= 1 && n <= api.MaxObjectives; got != want {
			t.Errorf("Valid of a program with %d objectives = %t", n, got)
		}
	}
	for n := range api.MaxRows + 5 {
		for most := max(0, n-2); most <= n+2; most++ {
			p := api.LP{Vars: 2, Objectives: m("3 5;"), Rows: repeated(n, "1 2"), Bounds: make([]api.Q, most)}
			if got, want := lp.Valid(p), n <= api.MaxRows && most == n; got != want {
				t.Errorf("Valid of a program with %d constraints and %d right-hand sides = %t", n, most, got)
			}
		}
	}
}

// A vector at any place, and no other, is as long as the number of variables allows or longer.
func TestP61ValidLengths(t *testing.T) {
	for _, vars := range []int{0, 1, 5, api.MaxCols} {
		for place := range api.MaxObjectives + api.MaxRows {
			for length := vars; length <= vars+1; length++ {
				p := api.LP{Vars: vars, Objectives: repeated(api.MaxObjectives, ""), Rows: repeated(api.MaxRows, ""), Bounds: make([]api.Q, api.MaxRows)}
				if place < api.MaxObjectives {
					p.Objectives[place] = make([]api.Q, length)
				} else {
					p.Rows[place-api.MaxObjectives] = make([]api.Q, length)
				}
				if got := lp.Valid(p); got != (length == vars) {
					t.Errorf("Valid of a program with %d variables and %d elements in vector %d = %t", vars, length, place, got)
				}
			}
		}
	}
}
