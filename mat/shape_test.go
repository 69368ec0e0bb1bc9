package mat_test

import (
	"math"
	"testing"

	"pylon/api"
	"pylon/frac"
	"pylon/mat"
)

func TestP41Cols(t *testing.T) {
	for _, x := range []struct {
		m    string
		cols int
	}{
		{"", 0}, {";", 0}, {";;;", 0}, {"1;", 1}, {"1 2; 3;", 2}, {"3; 1 2;", 2}, {"1; 1 2 3; 1 2;", 3}, {"; 1 2 3 4; 5;", 4}, {"1 2;;", 2}, {";; 7;", 1},
		{"0 0 0; 1;", 3}, {"0;", 1}, {"1; 0 0;", 2}, {"1 2 3; 4 5 6;", 3}, {"1; 2; 3; 4;", 1},
	} {
		for _, a := range forms(m(x.m)) {
			if got := mat.Cols(a); got != x.cols {
				t.Errorf("Cols(%s) = %d, want %d", text(a), got, x.cols)
			}
		}
	}
	if got := mat.Cols([][]api.Q{}); got != 0 {
		t.Errorf("Cols of a matrix without rows = %d", got)
	}
	// Only functions whose arguments are sizes limit them.
	if got := mat.Cols([][]api.Q{v("1"), make([]api.Q, 70001), nil}); got != 70001 {
		t.Errorf("Cols of a long matrix = %d, want 70001", got)
	}
}

func TestP41At(t *testing.T) {
	canonical := m("1 2 -3/2; 0; ; 18446744073709551616 1/18446744073709551616;")
	outside := []int{math.MinInt, -1 << 32, -5, -4, -3, -2, -1, 4, 5, 6, 1 << 32, math.MaxInt}
	for _, a := range forms(canonical) {
		for i := range 4 {
			for k := range 4 {
				want := api.Q{}
				if k < len(canonical[i]) {
					want = canonical[i][k]
				}
				wantQ(t, "an element", mat.At(a, i, k), want)
			}
			for _, k := range outside {
				wantQ(t, "an element outside a row", mat.At(a, i, k), api.Q{})
				wantQ(t, "an element of no row", mat.At(a, k, i), api.Q{})
				wantQ(t, "an element far outside", mat.At(a, k, k), api.Q{})
			}
		}
	}
	wantQ(t, "At(nil, 0, 0)", mat.At(nil, 0, 0), api.Q{})
	wantQ(t, "At(nil, -1, -1)", mat.At(nil, -1, -1), api.Q{})
	wantQ(t, "an element of an empty row", mat.At(m(";"), 0, 0), api.Q{})
}

func TestP41Equal(t *testing.T) {
	for _, x := range []struct {
		a, b string
		want bool
	}{
		{"", "", true}, {"", ";", true}, {"", ";;", true}, {"", "0;", true}, {"", ";0 0; 0;", true}, {"0 0;", "0; 0;", true}, {"", "1;", false}, {"", "; 0 0 -1/2;", false},
		{"1 2; 3;", "1 2; 3;", true}, {"1 2; 3;", "1 2; 3 0;", true}, {"1 2; 3;", "1 2; 3; 0;", true}, {"1 2; 3;", "1 2 0; 3;;; 0 0 0 0;", true},
		{"1 2; 3;", "1 2; 3 1;", false}, {"1 2; 3;", "1 2; 3;; 1;", false}, {"1 2; 3;", "1 2 1; 3;", false}, {"1 2; 3;", "1 2;", false}, {"1 2; 3;", "1; 3;", false},
		{"1 2; 3;", "1 2; 4;", false}, {"1 2; 3;", "1 2; -3;", false}, {"1 2; 3;", "-1 2; 3;", false}, {"1 2; 3;", "3; 1 2;", false}, {"1 2; 3;", "1 3; 2;", false},
		{"1 2 3 4;", "1 2; 3 4;", false}, {"1; 2;", "1 2;", false}, {"; 1;", "1;", false}, {"0 1;", "1;", false}, {"0 1;", "0; 1;", false},
		{"1/2 -1/3;", "1/2 -1/3;", true}, {"1/2 -1/3;", "1/2 1/3;", false}, {"1/2;", "1/3;", false}, {"1/2;", "2;", false},
		{"18446744073709551616; 1/18446744073709551616;", "18446744073709551616; 1/18446744073709551616;", true}, {"18446744073709551616;", "18446744073709551615;", false},
	} {
		for _, a := range forms(m(x.a)) {
			for _, b := range forms(m(x.b)) {
				if mat.Equal(a, b) != x.want || mat.Equal(b, a) != x.want {
					t.Errorf("Equal(%s, %s) = %t, and %t the other way round; want %t", text(a), text(b), mat.Equal(a, b), mat.Equal(b, a), x.want)
				}
			}
			if !mat.Equal(a, a) {
				t.Errorf("%s does not equal itself", text(a))
			}
		}
	}
	if !mat.Equal(nil, [][]api.Q{}) {
		t.Error("matrices without rows are not equal")
	}
}

func TestP41EqualOfLongMatrices(t *testing.T) {
	a, b := make([][]api.Q, 3000), make([][]api.Q, 2000)
	if !mat.Equal(a, b) || !mat.Equal(b, a) {
		t.Error("matrices without elements differ")
	}
	a[2999] = make([]api.Q, 70000)
	if !mat.Equal(a, b) || !mat.Equal(b, a) {
		t.Error("an element 0 makes matrices differ")
	}
	a[2999][69999] = q("1/2")
	if mat.Equal(a, b) || mat.Equal(b, a) {
		t.Error("the last element does not count")
	}
}

func TestP41Resize(t *testing.T) {
	for _, x := range []struct {
		m          string
		rows, cols int
		want       string
	}{
		{"1 2 3; 4 5 6;", 2, 3, "1 2 3; 4 5 6;"}, {"1 2 3; 4 5 6;", 2, 2, "1 2; 4 5;"}, {"1 2 3; 4 5 6;", 1, 3, "1 2 3;"}, {"1 2 3; 4 5 6;", 1, 1, "1;"},
		{"1 2 3; 4 5 6;", 3, 3, "1 2 3; 4 5 6; 0 0 0;"}, {"1 2 3; 4 5 6;", 2, 4, "1 2 3 0; 4 5 6 0;"}, {"1 2 3; 4 5 6;", 4, 2, "1 2; 4 5; 0 0; 0 0;"},
		{"1 2 3; 4 5 6;", 1, 5, "1 2 3 0 0;"}, {"1 2; 3;", 2, 2, "1 2; 3 0;"}, {"1 2; 3;", 3, 1, "1; 3; 0;"}, {"; -1/2; 7 8 9;", 3, 2, "0 0; -1/2 0; 7 8;"},
		{"", 2, 2, "0 0; 0 0;"}, {";;", 1, 2, "0 0;"}, {"", 1, 1, "0;"}, {"0 0; 0;", 1, 1, "0;"},
		{"18446744073709551616 1/18446744073709551616; 5;", 1, 2, "18446744073709551616 1/18446744073709551616;"},
		{"1 2; 3;", 0, 2, ""}, {"1 2; 3;", -1, 2, ""}, {"1 2; 3;", math.MinInt, 2, ""}, {"1 2; 3;", 0, 0, ""}, {"1 2; 3;", -2, -2, ""}, {"1 2; 3;", 0, math.MaxInt, ""},
		{"1 2; 3;", 2, 0, ";;"}, {"1 2; 3;", 3, -1, ";;;"}, {"1 2; 3;", 1, math.MinInt, ";"}, {"", 0, 0, ""}, {"", 2, 0, ";;"}, {"", -1, 5, ""},
	} {
		for _, a := range forms(m(x.m)) {
			wantM(t, "Resize of "+text(a), mat.Resize(a, x.rows, x.cols), m(x.want))
		}
	}
}

func TestP41ResizeLimit(t *testing.T) {
	long := table(1027, 3, func(i, k int) api.Q { return frac.FromInt64(int64(10*i + k)) })
	wide := [][]api.Q{nil, v("1/2")}
	for k := range 1027 {
		wide[0] = append(wide[0], frac.FromInt64(int64(k-5)))
	}
	for _, n := range []int{1022, 1023, 1024, 1025, 1026, 1027, 5000, 1 << 40, math.MaxInt} {
		size := min(n, 1024)
		wantM(t, "Resize of a matrix with many rows", mat.Resize(long, n, 2), table(size, 2, func(i, k int) api.Q { return long[i][k] }))
		wantM(t, "Resize to many rows", mat.Resize(wide, n, 1), table(size, 1, func(i, k int) api.Q { return at(wide, i, k) }))
		wantM(t, "Resize of a matrix with many columns", mat.Resize(wide, 2, n), table(2, size, func(i, k int) api.Q { return at(wide, i, k) }))
		wantM(t, "Resize to many columns", mat.Resize(long, 1, n), table(1, size, func(i, k int) api.Q { return at(long, i, k) }))
		wantM(t, "Resize to many empty rows", mat.Resize(long, n, 0), make([][]api.Q, size))
	}
	both := mat.Resize(m("1 2; 3;"), 1025, math.MaxInt)
	wantM(t, "Resize to many rows and columns", both, table(1024, 1024, func(i, k int) api.Q { return at(m("1 2; 3;"), i, k) }))
}

func TestP41Identity(t *testing.T) {
	for _, x := range []struct {
		n    int
		want string
	}{
		{0, ""}, {-1, ""}, {-1024, ""}, {math.MinInt, ""}, {1, "1;"}, {2, "1 0; 0 1;"}, {3, "1 0 0; 0 1 0; 0 0 1;"}, {4, "1 0 0 0; 0 1 0 0; 0 0 1 0; 0 0 0 1;"},
	} {
		wantM(t, "Identity", mat.Identity(x.n), m(x.want))
	}
	for _, n := range []int{17, 1023, 1024, 1025, 5000, 1 << 40, math.MaxInt} {
		size := min(n, 1024)
		wantM(t, "Identity", mat.Identity(n), table(size, size, func(i, k int) api.Q {
			if i == k {
				return q("1")
			}
			return api.Q{}
		}))
	}
}

func TestP41FromInts(t *testing.T) {
	for _, x := range []struct {
		want string
		l    [][]int64
	}{
		{"", nil}, {"", [][]int64{}}, {";", [][]int64{nil}}, {";;", [][]int64{{}, nil}}, {"5;", [][]int64{{5}}}, {"0 0;", [][]int64{{0, 0}}},
		{"1 2; 3;", [][]int64{{1, 2}, {3}}}, {"3; -1 -2;", [][]int64{{3}, {-1, -2}}}, {"; 1 0 -1; ; 7;", [][]int64{nil, {1, 0, -1}, {}, {7}}},
		{"-9223372036854775808 9223372036854775807; -9223372036854775807 9223372036854775806;",
			[][]int64{{math.MinInt64, math.MaxInt64}, {math.MinInt64 + 1, math.MaxInt64 - 1}}},
		{"4294967295 4294967296; -4294967296 -4294967295;", [][]int64{{1<<32 - 1, 1 << 32}, {-1 << 32, 1 - 1<<32}}},
		{"1; 2;", [][]int64{[]int64{1, 9}[:1], {2}, {3}}[:2]},
	} {
		wantM(t, "FromInts", mat.FromInts(x.l...), m(x.want))
	}
	wantM(t, "FromInts of no rows", mat.FromInts(), nil)
	wantM(t, "FromInts of a row", mat.FromInts([]int64{4, -6}), m("4 -6;"))
	wantM(t, "FromInts of two rows", mat.FromInts([]int64{4}, []int64{-6, 0}), m("4; -6 0;"))
}

// The sizes of FromInts are not limited.
func TestP41FromManyInts(t *testing.T) {
	l := make([][]int64, 1030)
	for i := range l {
		l[i] = []int64{int64(i) - 7}
	}
	l[3] = make([]int64, 65536+3)
	l[3][65536+2] = -9
	want := table(1030, 1, func(i, _ int) api.Q { return frac.FromInt64(int64(i) - 7) })
	want[3] = make([]api.Q, 65536+3)
	want[3][65536+2] = q("-9")
	wantM(t, "FromInts", mat.FromInts(l...), want)
}
