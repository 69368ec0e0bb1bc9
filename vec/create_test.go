package vec_test

import (
	"math"
	"slices"
	"testing"

	"pylon/api"
	"pylon/frac"
	"pylon/vec"
)

func TestP33Unit(t *testing.T) {
	for _, x := range []struct {
		n, k int
		want string
	}{
		{3, 0, "1 0 0"}, {3, 1, "0 1 0"}, {3, 2, "0 0 1"}, {3, 3, "0 0 0"}, {3, 4, "0 0 0"}, {3, -1, "0 0 0"}, {3, -3, "0 0 0"},
		{3, math.MaxInt, "0 0 0"}, {3, math.MinInt, "0 0 0"}, {1, 0, "1"}, {1, 1, "0"}, {1, -1, "0"}, {2, 0, "1 0"}, {6, 4, "0 0 0 0 1 0"},
		{0, 0, ""}, {0, -1, ""}, {0, 1, ""}, {-1, 0, ""}, {-1, -1, ""}, {-5, -3, ""}, {math.MinInt, 0, ""}, {math.MinInt, math.MinInt, ""},
		{-65537, 0, ""},
	} {
		wantV(t, "Unit", vec.Unit(x.n, x.k), v(x.want))
	}
}

func TestP33UnitLimit(t *testing.T) {
	for _, n := range []int{65535, 65536, 65537, 100000, 1 << 40, math.MaxInt} {
		for _, k := range []int{0, 65534, 65535, 65536, 65537, -1, n - 1, n, math.MaxInt, math.MinInt} {
			want := make([]api.Q, min(n, 65536))
			if k >= 0 && k < len(want) {
				want[k] = q("1")
			}
			wantV(t, "Unit", vec.Unit(n, k), want)
		}
	}
}

func TestP33Resize(t *testing.T) {
	for _, x := range []struct {
		a    string
		n    int
		want string
	}{
		{"1 2 3", 2, "1 2"}, {"1 2 3", 1, "1"}, {"1 2 3", 3, "1 2 3"}, {"1 2 3", 4, "1 2 3 0"}, {"1 2 3", 7, "1 2 3 0 0 0 0"},
		{"1 2 3", 0, ""}, {"1 2 3", -1, ""}, {"1 2 3", -65537, ""}, {"1 2 3", math.MinInt, ""},
		{"", 0, ""}, {"", -1, ""}, {"", 1, "0"}, {"", 3, "0 0 0"}, {"0 0", 1, "0"}, {"0", 2, "0 0"},
		{"-1/2 0 7/3 0", 3, "-1/2 0 7/3"}, {"-1/2 0 7/3 0", 2, "-1/2 0"}, {"-1/2 0 7/3 0", 5, "-1/2 0 7/3 0 0"},
		{"18446744073709551616 -1/18446744073709551616", 2, "18446744073709551616 -1/18446744073709551616"},
	} {
		for _, a := range forms(v(x.a)) {
			wantV(t, "Resize of "+text(a), vec.Resize(a, x.n), v(x.want))
		}
	}
}

func TestP33ResizeLimit(t *testing.T) {
	long := make([]api.Q, 65536+9)
	for i := range long {
		long[i] = frac.FromInt64(int64(i))
	}
	for _, size := range []int{0, 2, 65535, 65536, 65537, len(long)} {
		for _, n := range []int{65534, 65535, 65536, 65537, 65538, 1 << 40, math.MaxInt} {
			want := append(slices.Clone(long[:size]), make([]api.Q, len(long))...)
			wantV(t, "Resize", vec.Resize(long[:size], n), want[:min(n, 65536)])
		}
	}
}

func TestP33FromInts(t *testing.T) {
	for _, x := range []struct {
		want string
		l    []int64
	}{
		{"", nil}, {"", []int64{}}, {"0", []int64{0}}, {"5", []int64{5}}, {"-5", []int64{-5}}, {"1 -2 3", []int64{1, -2, 3}}, {"0 0 0", []int64{0, 0, 0}},
		{"-9223372036854775808", []int64{math.MinInt64}}, {"9223372036854775807", []int64{math.MaxInt64}},
		{"9223372036854775807 -9223372036854775808 0 -9223372036854775807 -1 1", []int64{math.MaxInt64, math.MinInt64, 0, math.MinInt64 + 1, -1, 1}},
		{"4294967295 4294967296 -4294967296 -4294967295", []int64{1<<32 - 1, 1 << 32, -1 << 32, 1 - 1<<32}},
		{"7 7 0", []int64{7, 7, 0, 9}[:3]},
	} {
		wantV(t, "FromInts", vec.FromInts(x.l...), v(x.want))
	}
	wantV(t, "FromInts", vec.FromInts(), nil)
	wantV(t, "FromInts", vec.FromInts(4), v("4"))
	wantV(t, "FromInts", vec.FromInts(4, -6), v("4 -6"))
}

func TestP33ManyInts(t *testing.T) {
	var l []int64
	var want []api.Q
	for n := range int64(65536 + 3) {
		l = append(l, n-7)
		want = append(want, frac.FromInt64(n-7))
	}
	wantV(t, "FromInts", vec.FromInts(l...), want)
}
