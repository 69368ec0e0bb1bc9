package tableau_test

import (
	"fmt"
	"math/rand/v2"
	"reflect"
	"slices"
	"strings"
	"testing"

	"pylon/api"
	"pylon/tableau"
)

// snapshot describes all that stands in the memory of a program, also beyond the ends of its slices.
func snapshot(p api.LP) string {
	var all strings.Builder
	fmt.Fprintln(&all, p.Vars, len(p.Bounds), cap(p.Bounds))
	for _, l := range [][][]api.Q{p.Objectives, p.Rows, {p.Bounds}} {
		fmt.Fprintln(&all, len(l), cap(l))
		for _, a := range l[:cap(l)] {
			fmt.Fprintln(&all, len(a), cap(a))
			for _, x := range a[:cap(a)] {
				fmt.Fprintln(&all, x, x.Num.W[:cap(x.Num.W)], x.Den.W[:cap(x.Den.W)])
			}
		}
	}
	return all.String()
}

// overwrite destroys the vectors, their elements and the words of these.
func overwrite(l ...[]api.Q) {
	for _, a := range l {
		for i, x := range a[:cap(a)] {
			for _, words := range [][]uint32{x.Num.W, x.Den.W} {
				for k := range words[:cap(words)] {
					words[:cap(words)][k] = 77
				}
			}
			a[:cap(a)][i] = q("-77/78")
		}
	}
}

// A memory holds the addresses of the elements of slices that are taken, and keeps them in use.
type memory struct {
	taken map[uintptr]bool
	kept  []any
}

// take takes the elements of all slices in x and reports whether all of them were free.
func (l *memory) take(x any) bool {
	l.kept = append(l.kept, x)
	return l.takeValue(reflect.ValueOf(x))
}

func (l *memory) takeValue(x reflect.Value) bool {
	free := true
	switch x.Kind() {
	case reflect.Pointer:
		return x.IsNil() || l.takeValue(x.Elem())
	case reflect.Struct:
		for i := range x.NumField() {
			free = l.takeValue(x.Field(i)) && free
		}
	case reflect.Slice:
		all := x.Slice(0, x.Cap())
		for i := range all.Len() {
			address := all.Index(i).UnsafeAddr()
			free = free && !l.taken[address]
			l.taken[address] = true
			free = l.takeValue(all.Index(i)) && free
		}
	}
	return free
}

// results returns all that a tableau returns.
func results(l *tableau.Tableau) []any {
	all := []any{l.Basis(), l.Rows(), l.RHS(), l.ReducedCosts(), l.Value(), l.Solution(), l.Clone()}
	for col := range l.ReducedCosts() {
		all = append(all, l.ReducedCost(col))
	}
	return all
}

// shared returns a program whose vectors and elements share memory with one another.
func shared() api.LP {
	x := q("18446744073709551617/3")
	row := []api.Q{x, x, {Num: x.Num, Den: x.Num}}
	all := [][]api.Q{row, row[:2], row[1:], row}
	return api.LP{Vars: 3, Objectives: all[:2], Rows: all[:3], Bounds: row}
}

// arguments returns programs in all kinds of forms; each call makes new ones.
func arguments() []api.LP {
	l := []api.LP{shared()}
	for _, p := range valid() {
		if p.Vars <= 4 {
			l = append(l, forms(p)...)
		}
	}
	return l
}

// TestP71Memory checks that the results of New and FromBasis share no memory with arguments or one another, and that nothing modifies
// the arguments.
func TestP71Memory(t *testing.T) {
	for i, p := range arguments() {
		before := snapshot(p)
		space := memory{taken: map[uintptr]bool{}}
		space.take(p)
		basis := append(slices.Clone(slacks(p)), -5, -6)[:len(p.Rows)]
		slices.Reverse(basis)
		space.take(basis)
		for range 2 {
			l, e := tableau.FromBasis(p, basis...)
			if e != api.OK {
				t.Fatalf("FromBasis returns error %d", e)
			}
			for _, made := range []*tableau.Tableau{started(t, p), l} {
				wander(t, generator(uint64(i)), made, 2)
				for k, result := range append(results(made), made) {
					if !space.take(result) {
						t.Errorf("result %d for %s shares memory", k, text(p))
					}
				}
			}
		}
		if len(p.Rows) > 0 && space.take(p) {
			t.Error("the check overlooks that memory is shared")
		}
		if snapshot(p) != before {
			t.Errorf("a program has been modified; it was %s", before)
		}
		if all := basis[:cap(basis)]; len(p.Rows) > 0 && (!slices.Equal(all[len(basis):len(basis)+2], []int{-5, -6}) || basis[0] != p.Vars+len(p.Rows)-1) {
			t.Errorf("the list of columns has been modified: %v", all)
		}
	}
}

// TestP71Kept destroys the arguments after a tableau has been made of them.
func TestP71Kept(t *testing.T) {
	pure, g := arguments(), generator(715)
	for i, p := range arguments() {
		basis := slacks(p)
		slices.Reverse(basis)
		want := slices.Clone(basis)
		l := started(t, p)
		other, e := tableau.FromBasis(p, basis...)
		overwrite(slices.Concat(p.Objectives, p.Rows, [][]api.Q{p.Bounds})...)
		for k := range basis {
			basis[k] = -9
		}
		if e != api.OK {
			t.Fatalf("FromBasis returns error %d", e)
		}
		wantTableau(t, l, pure[i], slacks(p))
		wantTableau(t, other, pure[i], want)
		wander(t, g, l, 3)
		wantTableau(t, l, pure[i], l.Basis())
	}
}

// wantUntouched destroys all that a tableau returns and checks that this does not change it.
func wantUntouched(t *testing.T, l *tableau.Tableau) {
	t.Helper()
	before := stateOf(l)
	overwrite(append(slices.Concat(l.Rows(), l.ReducedCosts()), l.RHS(), l.Value(), l.Solution())...)
	for col := range l.ReducedCosts() {
		overwrite(l.ReducedCost(col))
	}
	basis := l.Basis()
	for i := range basis {
		basis[i] = -9
	}
	wantState(t, "a tableau whose results have been overwritten", stateOf(l), before)
}

func TestP72Memory(t *testing.T) {
	g := generator(723)
	for _, p := range arguments() {
		l := started(t, p)
		for range 3 {
			wantUntouched(t, l)
			wander(t, g, l, 1)
			copied := l.Clone()
			wantUntouched(t, copied)
			wantTableau(t, copied, p, l.Basis())
		}
	}
}

// Nothing that stands beyond the ends of slices is read.
func TestP72BeyondTheEnd(t *testing.T) {
	g := generator(724)
	for range 200 {
		p := randomP(g)
		long := formP(p, g.IntN(4))
		seed := g.Uint64()
		a, b := started(t, p), started(t, long)
		wander(t, rand.New(rand.NewPCG(seed, 1)), a, 3)
		wander(t, rand.New(rand.NewPCG(seed, 1)), b, 3)
		wantState(t, "a tableau of "+text(p), stateOf(b), stateOf(a))
	}
}
