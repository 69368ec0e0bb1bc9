package simplex_test

import (
	"fmt"
	"reflect"
	"slices"
	"strings"
	"testing"

	"pylon/api"
	"pylon/simplex"
)

// snapshot describes all that stands in the memory of a program, also beyond the ends of its slices.
func snapshot(p api.LP) string {
	var all strings.Builder
	fmt.Fprintln(&all, p.Vars, len(p.Bounds), cap(p.Bounds))
	for _, l := range [][][]api.Q{p.Objectives, p.Rows, {p.Bounds}} {
		fmt.Fprintln(&all, len(l), cap(l))
		for _, a := range l[:cap(l)] {
			fmt.Fprintln(&all, len(a), cap(a))
			for _, x := range a[:cap(a)] {
				fmt.Fprintln(&all, x, x.Num.W[:cap(x.Num.W)], x.Den.W[:cap(x.Den.W)])
			}
		}
	}
	return all.String()
}

// A memory holds the addresses of the elements of slices that are taken, and keeps them in use.
type memory struct {
	taken map[uintptr]bool
	kept  []any
}

// take takes the elements of all slices in x and reports whether all of them were free.
func (l *memory) take(x any) bool {
	l.kept = append(l.kept, x)
	return l.takeValue(reflect.ValueOf(x))
}

func (l *memory) takeValue(x reflect.Value) bool {
	free := true
	switch x.Kind() {
	case reflect.Pointer:
		return x.IsNil() || l.takeValue(x.Elem())
	case reflect.Struct:
		for i := range x.NumField() {
			free = l.takeValue(x.Field(i)) && free
		}
	case reflect.Slice:
		all := x.Slice(0, x.Cap())
		for i := range all.Len() {
			address := all.Index(i).UnsafeAddr()
			free = free && !l.taken[address]
			l.taken[address] = true
			free = l.takeValue(all.Index(i)) && free
		}
	}
	return free
}

// shared returns a program whose vectors and elements share memory with one another.
func shared() api.LP {
	x := q("18446744073709551617/3")
	row := []api.Q{x, x, {Num: x.Num, Den: x.Num}}
	all := [][]api.Q{row, row[:2], row[1:], row}
	return api.LP{Vars: 3, Objectives: all[:2], Rows: all[:3], Bounds: row}
}

// arguments returns programs of all kinds in all forms.
func arguments() []api.LP {
	l := []api.LP{shared()}
	for _, x := range outcomes {
		l = append(l, forms(program(x.vars, x.objectives, x.rows, x.bound))...)
	}
	g := generator(851)
	for range 150 {
		l = append(l, formP(anyProgram(g), g.IntN(4)))
	}
	return l
}

// wantApart checks that calls modify no argument, and that their results share no memory with it or with one another.
func wantApart(t *testing.T, call func(p api.LP) []any) {
	t.Helper()
	for _, p := range arguments() {
		before := snapshot(p)
		space := memory{taken: map[uintptr]bool{}}
		space.take(p)
		for range 2 {
			for i, result := range call(p) {
				if !space.take(result) {
					t.Errorf("result %d for %s shares memory", i, text(p))
				}
			}
		}
		if len(p.Rows) > 0 && space.take(p) {
			t.Error("the check overlooks that memory is shared")
		}
		if snapshot(p) != before {
			t.Errorf("a program has been modified; it was %s", before)
		}
	}
}

func TestP81Memory(t *testing.T) {
	wantApart(t, func(p api.LP) []any {
		r, _ := simplex.Solve(p)
		return []any{&r}
	})
}

func TestP82Memory(t *testing.T) {
	wantApart(t, func(p api.LP) []any {
		point, _, _ := simplex.FeasiblePoint(p)
		x, amounts, _ := simplex.Optimum(p)
		return []any{point, x, amounts}
	})
}

// TestP81Forms solves a program twice, and in a form that is not canonical and has foreign elements beyond the ends of its slices.
func TestP81Forms(t *testing.T) {
	g := generator(852)
	for range 200 {
		p := anyProgram(g)
		a := solved(t, p)
		for _, form := range []api.LP{p, formP(p, g.IntN(4))} {
			b := solved(t, form)
			same := a.Kind == b.Kind && a.Pivots == b.Pivots && show(a.X) == show(b.X) && list(a.Y) == list(b.Y) && show(a.Ray) == show(b.Ray) && show(a.Farkas) == show(b.Farkas)
			if !same {
				t.Errorf("the results of two forms of %s differ", text(p))
			}
		}
	}
}

// TestP81Kept overwrites results, which must not change those of later calls, and solves the same program again.
func TestP81Kept(t *testing.T) {
	for _, p := range arguments() {
		a := solved(t, p)
		before := fmt.Sprint(a)
		other := solved(t, p)
		for _, l := range append(slices.Clone(other.Y), other.X, other.Ray, other.Farkas) {
			for i := range l[:cap(l)] {
				l[:cap(l)][i] = q("-77/78")
			}
		}
		if fmt.Sprint(a) != before || fmt.Sprint(solved(t, p)) != before {
			t.Errorf("the result for %s depends on an earlier one", text(p))
		}
	}
}
