package vec_test

import (
	"cmp"
	"testing"

	"pylon/api"
	"pylon/frac"
	"pylon/vec"
)

// wantOrder checks all functions that compare, on all representations of two vectors.
func wantOrder(t *testing.T, p, r []api.Q, order, place int, is bool) {
	t.Helper()
	for _, a := range forms(p) {
		for _, b := range forms(r) {
			if got := vec.Compare(a, b); got != order {
				t.Errorf("Compare(%s, %s) = %d, want %d", text(a), text(b), got, order)
			}
			if got := vec.Compare(b, a); got != -order {
				t.Errorf("Compare(%s, %s) = %d, want %d", text(b), text(a), got, -order)
			}
			if got := vec.Equal(a, b); got != (order == 0) {
				t.Errorf("Equal(%s, %s) = %t", text(a), text(b), got)
			}
			if got := vec.Equal(b, a); got != (order == 0) {
				t.Errorf("Equal(%s, %s) = %t", text(b), text(a), got)
			}
			if got, found := vec.FirstGreater(a, b); got != place || found != is {
				t.Errorf("FirstGreater(%s, %s) = %d, %t, want %d, %t", text(a), text(b), got, found, place, is)
			}
		}
	}
}

func TestP32Values(t *testing.T) {
	for _, x := range []struct {
		a, b         string
		order, place int
		is           bool
	}{
		{"", "", 0, 0, false}, {"0", "", 0, 0, false}, {"", "0 0 0", 0, 0, false}, {"0 0", "0", 0, 0, false},
		{"1", "1", 0, 0, false}, {"2", "1", 1, 0, true}, {"1", "2", -1, 0, false}, {"1/2", "1/3", 1, 0, true}, {"-1/2", "-1/3", -1, 0, false},
		{"1 2", "1 2", 0, 0, false}, {"1 2 0 0", "1 2", 0, 0, false}, {"1 2", "1 2 0", 0, 0, false}, {"1/2 -3 0", "1/2 -3 0 0", 0, 0, false},
		{"1 0 5", "1", 1, 2, true}, {"1", "1 0 5", -1, 0, false}, {"0 -1", "0", -1, 0, false}, {"0", "0 -1", 1, 1, true},
		{"1 5", "2 4", -1, 1, true}, {"2 4", "1 5", 1, 0, true}, {"2 -9 -9", "1 9 9", 1, 0, true}, {"1 9 9", "2 -9 -9", -1, 1, true},
		{"1", "0 0 0 0 1", 1, 0, true}, {"0 0 0 0 1", "1", -1, 4, true}, {"", "1 1 1", -1, 0, false}, {"1 1 1", "", 1, 0, true},
		{"", "-1", 1, 0, true}, {"-1", "", -1, 0, false}, {"", "0 0 -1/2", 1, 2, true}, {"0 0 -1/2", "", -1, 0, false},
		{"", "1 -1", -1, 1, true}, {"1 -1", "", 1, 0, true}, {"-1 1", "", -1, 1, true}, {"", "-1 1", 1, 0, true},
		{"3", "3 1 -1 -2", -1, 2, true}, {"3 1 -1 -2", "3", 1, 1, true}, {"3 -5 0 2", "3 -5", 1, 3, true}, {"3 -5", "3 -5 0 2", -1, 0, false},
		{"3 -5", "3 -5 0 -2", 1, 3, true}, {"3 -5 0 -2", "3 -5", -1, 0, false}, {"-7 -7 -7", "-7 -7", -1, 0, false}, {"-7 -7", "-7 -7 -7", 1, 2, true},
		{"1/3 1/2", "1/3 2/3", -1, 0, false}, {"1/3 2/3", "1/3 1/2", 1, 1, true}, {"1 2 3 4 5", "1 2 3 4 6", -1, 0, false},
		{"1 2 3 4 5", "1 2 3 4 4", 1, 4, true}, {"-1/3 0", "-333/1000 -1", -1, 1, true},
		{"18446744073709551615/18446744073709551616", "1", -1, 0, false}, {"1", "18446744073709551615/18446744073709551616", 1, 0, true},
		{"0 -1/18446744073709551616", "0", -1, 0, false}, {"0", "0 -1/18446744073709551616", 1, 1, true},
	} {
		wantOrder(t, v(x.a), v(x.b), x.order, x.place, x.is)
	}
}

func TestP32Sign(t *testing.T) {
	for _, x := range []struct {
		a    string
		sign int
	}{
		{"", 0}, {"0", 0}, {"0 0 0", 0}, {"1", 1}, {"-1", -1}, {"1/2", 1}, {"-1/2 9", -1}, {"1 -9", 1}, {"0 3", 1}, {"0 -3", -1}, {"0 0 -1/7 5", -1},
		{"0 0 1/7 -5", 1}, {"0 0 0 0 0 -1/18446744073709551616", -1}, {"0 0 0 0 0 1/18446744073709551616", 1}, {"5 0", 1}, {"-5 0", -1},
	} {
		for _, a := range forms(v(x.a)) {
			if got := vec.Sign(a); got != x.sign {
				t.Errorf("Sign(%s) = %d, want %d", text(a), got, x.sign)
			}
		}
	}
}

// smallVectors returns all lists of at most the given length of the elements -1, 0 and 1.
func smallVectors(most int) [][]int64 {
	l := [][]int64{nil}
	for first := 0; len(l[first]) < most; first++ {
		for _, n := range []int64{-1, 0, 1} {
			l = append(l, append(append([]int64{}, l[first]...), n))
		}
	}
	return l
}

func TestP32SmallVectors(t *testing.T) {
	at := func(l []int64, i int) int64 {
		if i < len(l) {
			return l[i]
		}
		return 0
	}
	vector := func(l []int64) []api.Q {
		var a []api.Q
		for _, n := range l {
			a = append(a, frac.FromInt64(n))
		}
		return a
	}
	l := smallVectors(3)
	for _, a := range l {
		for _, b := range l {
			order, place, is := 0, 0, false
			for i := range max(len(a), len(b)) {
				if order == 0 {
					order = cmp.Compare(at(a, i), at(b, i))
				}
				if !is && at(a, i) > at(b, i) {
					place, is = i, true
				}
			}
			wantOrder(t, vector(a), vector(b), order, place, is)
		}
		sign := 0
		for i := len(a) - 1; i >= 0; i-- {
			if a[i] != 0 {
				sign = int(a[i])
			}
		}
		if got := vec.Sign(vector(a)); got != sign {
			t.Errorf("Sign(%v) = %d, want %d", a, got, sign)
		}
	}
}

func TestP32LongVectors(t *testing.T) {
	n := 65536 + 3
	a, b := make([]api.Q, n), make([]api.Q, n-1)
	if vec.Compare(a, b) != 0 || !vec.Equal(a, b) || vec.Sign(a) != 0 {
		t.Error("zero vectors of different lengths differ")
	}
	a[n-1] = q("1/2")
	if vec.Compare(a, b) != 1 || vec.Compare(b, a) != -1 || vec.Equal(a, b) || vec.Sign(a) != 1 {
		t.Error("the last element does not count")
	}
	if place, is := vec.FirstGreater(a, b); place != n-1 || !is {
		t.Errorf("FirstGreater = %d, %t, want %d, true", place, is, n-1)
	}
	if place, is := vec.FirstGreater(b, a); place != 0 || is {
		t.Errorf("FirstGreater = %d, %t, want 0, false", place, is)
	}
}
