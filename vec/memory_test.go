package vec_test

import (
	"math"
	"slices"
	"testing"

	"pylon/api"
	"pylon/vec"
)

// snapshot returns all that stands in the memory of the vectors, also beyond their ends.
func snapshot(l ...[]api.Q) []uint64 {
	var all []uint64
	for _, a := range l {
		all = append(all, uint64(len(a)), uint64(cap(a)))
		for _, x := range a[:cap(a)] {
			for _, z := range []api.Z{x.Num, x.Den} {
				all = append(all, uint64(len(z.W)), uint64(cap(z.W)))
				if z.Neg {
					all = append(all, math.MaxUint64)
				}
				for _, word := range z.W[:cap(z.W)] {
					all = append(all, uint64(word))
				}
			}
		}
	}
	return all
}

// owned is the memory that vectors occupy.
type owned struct {
	elements map[*api.Q]bool
	words    map[*uint32]bool
}

// take adds the memory of a and reports whether it was free.
func (o owned) take(a []api.Q) bool {
	free := true
	a = a[:cap(a)]
	for i := range a {
		free = free && !o.elements[&a[i]]
		o.elements[&a[i]] = true
		for _, words := range [][]uint32{a[i].Num.W, a[i].Den.W} {
			words = words[:cap(words)]
			for k := range words {
				free = free && !o.words[&words[k]]
				o.words[&words[k]] = true
			}
		}
	}
	return free
}

// wantApart checks that f does not modify the arguments nor read beyond their ends, and that its results share no memory
// with the arguments, with one another or with those of another call.
func wantApart(t *testing.T, what string, arguments [][]api.Q, f func(l [][]api.Q) [][]api.Q) {
	t.Helper()
	before := snapshot(arguments...)
	memory := owned{map[*api.Q]bool{}, map[*uint32]bool{}}
	for _, a := range arguments {
		memory.take(a)
	}
	var first [][]api.Q
	for range 2 {
		results := f(arguments)
		for i, a := range results {
			if !memory.take(a) {
				t.Errorf("%s: result %d shares memory", what, i)
			}
		}
		if first == nil {
			first = results
		}
		if !slices.EqualFunc(first, results, same) {
			t.Errorf("%s: the results of two calls differ", what)
		}
	}
	if !slices.Equal(before, snapshot(arguments...)) {
		t.Errorf("%s: the arguments have been modified", what)
	}
	var exact [][]api.Q
	for _, a := range arguments {
		exact = append(exact, slices.Clip(slices.Clone(a)))
	}
	if !slices.EqualFunc(first, f(exact), same) {
		t.Errorf("%s: the results depend on elements beyond the ends of the arguments", what)
	}
}

// arguments returns vectors in all kinds of forms.
func arguments() [][]api.Q {
	var l [][]api.Q
	for _, s := range []string{
		"", "5", "0 0", "1 -2/3", "0 1/2 0 18446744073709551616", "-1 -1/18446744073709551616 0 7/3 9 -5", "1/2 1/2 1/2 1/2",
	} {
		all := forms(v(s))
		l = append(l, all[0], all[1], all[4], all[5])
	}
	// Elements may share memory even within one vector.
	x := q("18446744073709551617/3")
	return append(l, []api.Q{x, x, {Num: x.Num, Den: x.Num}, x}, guarded(v("1/3 2")))
}

func TestP31Memory(t *testing.T) {
	factors := guarded(v("0 1 -5/3"))
	for _, a := range arguments() {
		for _, b := range append(arguments(), a) {
			wantApart(t, "arithmetic", [][]api.Q{a, b, factors}, func(l [][]api.Q) [][]api.Q {
				a, b, k := l[0], l[1], l[2]
				return [][]api.Q{
					vec.Add(a, b), vec.Sub(a, b), {vec.Dot(a, b)}, vec.Scale(k[0], a), vec.Scale(k[1], a), vec.Scale(k[2], a),
					vec.AddScaled(k[0], a, b), vec.AddScaled(k[1], a, b), vec.AddScaled(k[2], a, b),
					vec.Sum(), vec.Sum(a), vec.Sum(a, b), vec.Sum(nil, b, a),
				}
			})
		}
	}
}

func TestP31SumKeepsList(t *testing.T) {
	all := [][]api.Q{v("1 2"), v("1/2"), v("3"), v("5 6 7 8")}
	l := all[:3]
	wantV(t, "Sum", vec.Sum(l...), v("9/2 2"))
	for i, s := range []string{"1 2", "1/2", "3", "5 6 7 8"} {
		wantV(t, "a summand after Sum", all[i], v(s))
	}
}

func TestP31VectorTwice(t *testing.T) {
	for _, a := range arguments() {
		zero := make([]api.Q, len(a))
		twice := vec.Scale(q("2"), a)
		wantV(t, "a + a", vec.Add(a, a), twice)
		wantV(t, "a - a", vec.Sub(a, a), zero)
		wantV(t, "-1 a + a", vec.AddScaled(q("-1"), a, a), zero)
		wantV(t, "the sum of a and a", vec.Sum(a, a), twice)
		wantV(t, "the sum of the halves", vec.Sum(vec.Scale(q("1/2"), a), vec.Scale(q("1/2"), a)), vec.Resize(a, len(a)))
	}
}

func TestP32Memory(t *testing.T) {
	for _, a := range arguments() {
		for _, b := range append(arguments(), a) {
			wantApart(t, "comparison", [][]api.Q{a, b}, func(l [][]api.Q) [][]api.Q {
				a, b := l[0], l[1]
				numbers := []int64{int64(vec.Compare(a, b)), int64(vec.Sign(a))}
				place, is := vec.FirstGreater(a, b)
				for i, yes := range []bool{vec.Equal(a, b), is} {
					if yes {
						numbers = append(numbers, int64(i), int64(place))
					}
				}
				return [][]api.Q{vec.FromInts(numbers...)}
			})
		}
		if vec.Compare(a, a) != 0 || !vec.Equal(a, a) {
			t.Errorf("%s is not equal to itself", text(a))
		}
		if place, is := vec.FirstGreater(a, a); place != 0 || is {
			t.Errorf("%s is greater than itself", text(a))
		}
	}
}

func TestP33Memory(t *testing.T) {
	for _, a := range arguments() {
		wantApart(t, "Resize", [][]api.Q{a}, func(l [][]api.Q) [][]api.Q {
			a := l[0]
			return [][]api.Q{vec.Resize(a, -1), vec.Resize(a, 0), vec.Resize(a, 1), vec.Resize(a, 3), vec.Resize(a, len(a)), vec.Resize(a, 9)}
		})
	}
	wantApart(t, "Unit and FromInts", nil, func([][]api.Q) [][]api.Q {
		return [][]api.Q{
			vec.Unit(3, 1), vec.Unit(3, 1), vec.Unit(3, 9), vec.Unit(0, 0), vec.FromInts(), vec.FromInts(1), vec.FromInts(7, 7, 0, 0, -7, 1<<40),
		}
	})
	l := []int64{3, -1, math.MinInt64, 5}
	vec.FromInts(l[:3]...)
	if !slices.Equal(l, []int64{3, -1, math.MinInt64, 5}) {
		t.Errorf("FromInts has modified its arguments to %v", l)
	}
}
