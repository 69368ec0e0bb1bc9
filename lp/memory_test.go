package lp_test

import (
	"fmt"
	"slices"
	"strings"
	"testing"

	"pylon/api"
	"pylon/lp"
)

// snapshot describes all that stands in the memory of programs, also beyond the ends of their slices.
func snapshot(programs ...api.LP) string {
	var all strings.Builder
	for _, p := range programs {
		fmt.Fprintln(&all, p.Vars, len(p.Bounds), cap(p.Bounds))
		for _, l := range [][][]api.Q{p.Objectives, p.Rows, {p.Bounds}} {
			fmt.Fprintln(&all, len(l))
			for _, a := range l[:cap(l)] {
				fmt.Fprintln(&all, len(a), cap(a))
				for _, x := range a[:cap(a)] {
					fmt.Fprintln(&all, x, x.Num.W[:cap(x.Num.W)], x.Den.W[:cap(x.Den.W)])
				}
			}
		}
	}
	return all.String()
}

// A memory holds the addresses of the vectors, elements and words that are taken.
type memory map[any]bool

// take takes the memory of a program and reports whether all of it was free.
func (taken memory) take(p api.LP) bool {
	free := takeAll(taken, p.Objectives)
	free = takeAll(taken, p.Rows) && free
	for _, a := range slices.Concat(p.Objectives[:cap(p.Objectives)], p.Rows[:cap(p.Rows)], [][]api.Q{p.Bounds}) {
		free = takeAll(taken, a) && free
		for _, x := range a[:cap(a)] {
			free = takeAll(taken, x.Num.W) && free
			free = takeAll(taken, x.Den.W) && free
		}
	}
	return free
}

func takeAll[T any](taken memory, l []T) bool {
	free, l := true, l[:cap(l)]
	for i := range l {
		free = free && !taken[&l[i]]
		taken[&l[i]] = true
	}
	return free
}

// arguments returns programs in all kinds of forms.
func arguments() []api.LP {
	var l []api.LP
	for _, p := range []api.LP{
		sample(), program(0, ";", "", ""), program(0, "; ;", "; ;", "0 1"), program(3, "1 1/3; ; 18446744073709551617;", "; 5 6/7; 1 2 -18446744073709551617/3;", "1 -1 18446744073709551617"), program(4, ";", "", ""), program(1, "2;", "3;", "4 5"), program(-1, "1;", "2;", ""), {},
	} {
		l = append(l, forms(p)...)
	}
	// Vectors may share memory even within one program, and so may elements.
	x := q("18446744073709551617/3")
	row := []api.Q{x, x, {Num: x.Num, Den: x.Num}}
	all := [][]api.Q{row, row[:2], row[1:], row}
	return append(l, api.LP{Vars: 3, Objectives: all, Rows: all, Bounds: append(row, x)[:4]}, api.LP{Vars: 3, Objectives: all[:2], Rows: all[:3], Bounds: row})
}

// wantApart checks that f modifies neither the program nor the vectors, that its results share no memory with them, with one
// another or with the results of another call, and that nothing beyond the ends of slices matters.
func wantApart(t *testing.T, f func(p api.LP, a, b []api.Q) []api.LP) {
	t.Helper()
	for _, p := range arguments() {
		vectors := slices.Concat(formsV(v("1 2")), formsV(v("1/2")), formsV(nil), p.Rows, p.Objectives, [][]api.Q{p.Bounds})
		for i, a := range vectors {
			others := api.LP{Rows: [][]api.Q{a, vectors[len(vectors)-1-i]}}
			before := snapshot(p, others)
			taken := memory{}
			taken.take(p)
			taken.take(others)
			first, second := f(p, a, others.Rows[1]), f(p, a, others.Rows[1])
			for k, result := range slices.Concat(first, second) {
				if !taken.take(result) {
					t.Errorf("result %d for %s shares memory", k%len(first), text(p))
				}
			}
			if snapshot(p, others) != before {
				t.Errorf("an argument has been modified; they were %s", before)
			}
			exact := f(clipped(p), slices.Clip(slices.Clone(a)), slices.Clip(slices.Clone(others.Rows[1])))
			for k := range first {
				if text(second[k]) != text(first[k]) || text(exact[k]) != text(first[k]) {
					t.Errorf("result %d is (%s), then (%s), and for arguments with nothing beyond their ends (%s)", k, text(first[k]), text(second[k]), text(exact[k]))
				}
			}
		}
	}
}

// clipped returns a copy of p with nothing beyond the ends of its slices.
func clipped(p api.LP) api.LP {
	clip := func(l [][]api.Q) [][]api.Q {
		l = slices.Clip(slices.Clone(l))
		for i, a := range l {
			l[i] = slices.Clip(slices.Clone(a))
		}
		return l
	}
	return api.LP{Vars: p.Vars, Objectives: clip(p.Objectives), Rows: clip(p.Rows), Bounds: slices.Clip(slices.Clone(p.Bounds))}
}

func TestP61Memory(t *testing.T) {
	wantApart(t, func(p api.LP, a, b []api.Q) []api.LP {
		facts := api.LP{Vars: 10 * lp.Compare(p, a, b)}
		for i, is := range []bool{lp.Valid(p), lp.Feasible(p, a), lp.Feasible(p, b)} {
			if is {
				facts.Vars += 100 << i
			}
		}
		return []api.LP{facts, {Bounds: lp.Evaluate(p, a)}, {Bounds: lp.Slack(p, a)}}
	})
}

func TestP62Memory(t *testing.T) {
	wantApart(t, func(p api.LP, _, _ []api.Q) []api.LP {
		d, _ := lp.Dual(p)
		first, _ := lp.SingleObjective(p, 0)
		second, _ := lp.SingleObjective(p, 1)
		return []api.LP{d, first, second}
	})
}

func TestP63Memory(t *testing.T) {
	wantApart(t, func(p api.LP, a, b []api.Q) []api.LP {
		var last api.Q
		if len(b) > 0 {
			last = b[len(b)-1]
		}
		constrained, _ := lp.AddConstraint(p, a, last)
		equal, _ := lp.AddEquation(p, a, last)
		if !lp.Equal(p, p) || !lp.Equal(p, clipped(p)) {
			t.Errorf("(%s) does not equal itself", text(p))
		}
		return []api.LP{constrained, equal}
	})
}
