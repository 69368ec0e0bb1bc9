package solve_test

import (
	"fmt"
	"slices"
	"strings"
	"testing"

	"pylon/api"
	"pylon/solve"
)

// snapshot describes all that stands in the memory of a matrix, also beyond its ends.
func snapshot(a [][]api.Q) string {
	var all strings.Builder
	for _, row := range a[:cap(a)] {
		fmt.Fprintln(&all, len(a), len(row), cap(row))
		for _, x := range row[:cap(row)] {
			fmt.Fprintln(&all, x, x.Num.W[:cap(x.Num.W)], x.Den.W[:cap(x.Den.W)])
		}
	}
	return all.String()
}

// A memory holds the addresses of the rows, elements and words that are taken.
type memory map[any]bool

// take takes the memory of a matrix and reports whether all of it was free.
func (taken memory) take(a [][]api.Q) bool {
	free := takeAll(taken, a)
	for _, row := range a[:cap(a)] {
		free = takeAll(taken, row) && free
		for _, x := range row[:cap(row)] {
			free = takeAll(taken, x.Num.W) && free
			free = takeAll(taken, x.Den.W) && free
		}
	}
	return free
}

func takeAll[T any](taken memory, l []T) bool {
	free, l := true, l[:cap(l)]
	for i := range l {
		free = free && !taken[&l[i]]
		taken[&l[i]] = true
	}
	return free
}

// arguments returns matrices in all kinds of forms, with and without an inverse.
func arguments() [][][]api.Q {
	var l [][][]api.Q
	for _, s := range []string{
		"", ";;", "5;", "0 0; 0;", "1 2; 2 4;", "1 -2/3; 4;", "0 1 2; 0 2 4; 0 0 7;", "18446744073709551617 1/3 0; 1/18446744073709551616; 5 6 7;", "0 1 2 3; 0 2 4 6 8;",
	} {
		l = append(l, forms(m(s))...)
	}
	// Elements may share memory even within one matrix, and so may rows.
	x := v("18446744073709551617/3")[0]
	row := []api.Q{x, x, {Num: x.Num, Den: x.Num}}
	return append(l, [][]api.Q{row, row[:2], row[1:], row})
}

// wantApart checks that f modifies neither m nor b, and that its results share no memory with them, with one another
// or with the results of another call.
func wantApart(t *testing.T, f func(a [][]api.Q, b []api.Q) [][][]api.Q) {
	t.Helper()
	for _, a := range arguments() {
		sides := append(formsV(v("1 2 3")), formsV(v("1/2"))...)
		for _, b := range append(sides, firstRow(a)) {
			right := [][]api.Q{b}
			before := snapshot(a) + snapshot(right)
			taken := memory{}
			taken.take(a)
			taken.take(right)
			first, second := f(a, b), f(a, b)
			for i, result := range slices.Concat(first, second) {
				if !taken.take(result) {
					t.Errorf("result %d for %s shares memory", i%len(first), name(a, b))
				}
			}
			for i := range first {
				wantM(t, "the result of a second call for "+name(a, b), second[i], first[i])
			}
			if snapshot(a)+snapshot(right) != before {
				t.Errorf("an argument has been modified; they were %s", before)
			}
		}
	}
}

// firstRow returns the first row of a matrix itself, which shares its memory.
func firstRow(a [][]api.Q) []api.Q {
	if len(a) == 0 {
		return nil
	}
	return a[0]
}

func TestP51Memory(t *testing.T) {
	wantApart(t, func(a [][]api.Q, _ []api.Q) [][][]api.Q {
		r, pivots := solve.Reduce(a)
		_, others := solve.Reduce(a)
		if free := (memory{}); len(pivots) != solve.Rank(a) || !takeAll(free, pivots) || !takeAll(free, others) {
			t.Errorf("the pivots of (%s) share memory", text(a))
		}
		return [][][]api.Q{r, solve.NullSpace(a)}
	})
}

func TestP52Memory(t *testing.T) {
	wantApart(t, func(a [][]api.Q, b []api.Q) [][][]api.Q {
		x, free, _ := solve.Solve(a, b)
		y, _ := solve.Certificate(a, b)
		return [][][]api.Q{{x}, free, {y}}
	})
}

func TestP53Memory(t *testing.T) {
	wantApart(t, func(a [][]api.Q, _ []api.Q) [][][]api.Q {
		inverse, _ := solve.Inverse(a)
		det, _ := solve.Det(a)
		return [][][]api.Q{inverse, {{det}}}
	})
}
