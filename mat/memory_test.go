package mat_test

import (
	"fmt"
	"math"
	"slices"
	"strings"
	"testing"

	"pylon/api"
	"pylon/mat"
)

// snapshot returns all that stands in the memory of the matrices, also beyond their ends.
func snapshot(l [][][]api.Q) string {
	var all strings.Builder
	for _, a := range l {
		fmt.Fprintln(&all, len(a), cap(a))
		for _, row := range a[:cap(a)] {
			fmt.Fprintln(&all, len(row), cap(row))
			for _, x := range row[:cap(row)] {
				fmt.Fprintln(&all, x, x.Num.W[:cap(x.Num.W)], x.Den.W[:cap(x.Den.W)])
			}
		}
	}
	return all.String()
}

// A memory holds the addresses that are taken: of rows, of elements and of words.
type memory map[any]bool

// take takes the memory of a matrix and reports whether all of it was free.
func (taken memory) take(a [][]api.Q) bool {
	free := takeAll(taken, a)
	for _, row := range a[:cap(a)] {
		free = takeAll(taken, row) && free
		for _, x := range row[:cap(row)] {
			free = takeAll(taken, x.Num.W) && free
			free = takeAll(taken, x.Den.W) && free
		}
	}
	return free
}

func takeAll[T any](taken memory, l []T) bool {
	free, l := true, l[:cap(l)]
	for i := range l {
		free = free && !taken[&l[i]]
		taken[&l[i]] = true
	}
	return free
}

// exact returns a copy of a with nothing beyond any end.
func exact(a [][]api.Q) [][]api.Q {
	l := make([][]api.Q, len(a))
	for i, row := range a {
		l[i] = slices.Clip(slices.Clone(row))
	}
	return l
}

// same reports whether two lists contain the same representations.
func same(l, k [][][]api.Q) bool {
	rows := func(a, b []api.Q) bool { return slices.EqualFunc(a, b, sameQ) }
	return slices.EqualFunc(l, k, func(a, b [][]api.Q) bool { return slices.EqualFunc(a, b, rows) })
}

// wantApart checks that f does not modify the arguments nor read beyond their ends, and that its results share no memory
// with the arguments, with one another or with those of another call.
func wantApart(t *testing.T, arguments [][][]api.Q, f func(l [][][]api.Q) [][][]api.Q) {
	t.Helper()
	before, taken := snapshot(arguments), memory{}
	for _, a := range arguments {
		taken.take(a)
	}
	first, second := f(arguments), f(arguments)
	for i, a := range append(slices.Clone(first), second...) {
		if !taken.take(a) {
			t.Errorf("result %d shares memory: %s", i%len(first), text(a))
		}
	}
	if !same(first, second) {
		t.Errorf("the results of two calls differ for %s", before)
	}
	var clipped [][][]api.Q
	for _, a := range arguments {
		clipped = append(clipped, exact(a))
	}
	if !same(first, f(clipped)) {
		t.Errorf("the results depend on what stands beyond the ends of the arguments %s", before)
	}
	if snapshot(arguments) != before {
		t.Errorf("the arguments have been modified: they were %s", before)
	}
}

// arguments returns matrices in all kinds of forms.
func arguments() [][][]api.Q {
	var l [][][]api.Q
	for _, s := range []string{
		"", ";;", "5;", "0 0; ; 0;", "1 -2/3; 4;", "; 0 1/2 0 18446744073709551616; -1;", "-1 -1/18446744073709551616 0; 7/3 9 -5; 1/2 1/2 1/2;",
	} {
		all := forms(m(s))
		l = append(l, all[0], all[1], all[4])
	}
	// Elements may share memory even within one matrix, and so may rows.
	x := q("18446744073709551617/3")
	row := []api.Q{x, x, {Num: x.Num, Den: x.Num}}
	return append(l, [][]api.Q{row, row[:2], row[1:], row})
}

func TestP41Memory(t *testing.T) {
	for _, a := range arguments() {
		wantApart(t, [][][]api.Q{a}, func(l [][][]api.Q) [][][]api.Q {
			a := l[0]
			return [][][]api.Q{
				mat.Resize(a, -1, 2), mat.Resize(a, 2, -1), mat.Resize(a, 1, 1), mat.Resize(a, 2, 3), mat.Resize(a, 7, 7), mat.Resize(a, len(a), mat.Cols(a)),
				{{mat.At(a, 0, 0), mat.At(a, 0, 1), mat.At(a, 1, 0), mat.At(a, 0, 0), mat.At(a, 5, 5), mat.At(a, 2, 2)}},
			}
		})
		for _, b := range append(arguments(), a) {
			wantApart(t, [][][]api.Q{a, b}, func(l [][][]api.Q) [][][]api.Q {
				if mat.Equal(l[0], l[1]) {
					return [][][]api.Q{mat.FromInts([]int64{int64(mat.Cols(l[0]))})}
				}
				return [][][]api.Q{nil}
			})
		}
	}
	wantApart(t, nil, func([][][]api.Q) [][][]api.Q {
		return [][][]api.Q{mat.Identity(0), mat.Identity(1), mat.Identity(3), mat.Identity(3), mat.FromInts(), mat.FromInts(nil, nil)}
	})
}

func TestP41FromIntsMemory(t *testing.T) {
	row := []int64{3, -1, math.MinInt64, 5, 0}
	l := [][]int64{row[:2], row, nil, row[1:4], row}
	wantApart(t, nil, func([][][]api.Q) [][][]api.Q {
		return [][][]api.Q{mat.FromInts(l[:4]...), mat.FromInts(l[1]), mat.FromInts(row, row)}
	})
	if !slices.Equal(row, []int64{3, -1, math.MinInt64, 5, 0}) {
		t.Errorf("FromInts has modified a row to %v", row)
	}
	for i, n := range []int{2, 5, 0, 3, 5} {
		if len(l[i]) != n {
			t.Errorf("FromInts has modified the list of rows to %v", l)
		}
	}
}

func TestP42Memory(t *testing.T) {
	factors := oddRow(v("0 1 -5/3"), 2)
	for i, a := range arguments() {
		for _, b := range append(arguments(), a) {
			x := oddRow(v("1 0 -3/2 18446744073709551616"), i%manners)
			wantApart(t, [][][]api.Q{a, b, {x, factors}}, func(l [][][]api.Q) [][][]api.Q {
				a, b, x, k := l[0], l[1], l[2][0], l[2][1]
				return [][][]api.Q{
					{mat.MulVec(a, x)}, {mat.MulVec(a, k)}, {mat.MulVec(a, nil)}, {mat.VecMul(x, a)}, {mat.VecMul(k, a)}, {mat.VecMul(nil, a)},
					mat.Mul(a, b), mat.Transpose(a), mat.Add(a, b), mat.Concat(a, b),
					mat.Scale(k[0], a), mat.Scale(k[1], a), mat.Scale(k[2], a),
				}
			})
		}
	}
}

func TestP42MatrixTwice(t *testing.T) {
	for _, a := range arguments() {
		canonical := mat.Scale(q("1"), a)
		rows, cols := len(a), width(a)
		wantM(t, "a + a", mat.Add(a, a), mat.Scale(q("2"), a))
		wantM(t, "a a", mat.Mul(a, a), mat.Mul(canonical, canonical))
		wantM(t, "[a a]", mat.Concat(a, a), table(rows, 2*cols, func(i, k int) api.Q { return at(canonical, i, k%cols) }))
		for i, row := range a {
			wantV(t, "a row times the matrix", mat.VecMul(row, a), mat.VecMul(canonical[i], canonical))
			wantV(t, "the matrix times a row", mat.MulVec(a, row), mat.MulVec(canonical, canonical[i]))
		}
	}
}
