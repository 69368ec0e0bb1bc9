package frac_test

import (
	"math"
	"testing"

	"pylon/api"
	"pylon/frac"
	"pylon/whole"
)

func TestP22Rounding(t *testing.T) {
	for _, x := range []struct {
		a           api.Q
		floor, ceil api.Z
	}{
		{api.Q{}, plus(), plus()}, {ratio(1, 1), plus(1), plus(1)}, {ratio(-1, 1), minus(1), minus(1)},
		{ratio(1, 2), plus(), plus(1)}, {ratio(-1, 2), minus(1), plus()}, {ratio(3, 2), plus(1), plus(2)}, {ratio(-3, 2), minus(2), minus(1)},
		{ratio(1, 1000), plus(), plus(1)}, {ratio(-1, 1000), minus(1), plus()}, {ratio(999, 1000), plus(), plus(1)}, {ratio(-999, 1000), minus(1), plus()},
		{ratio(22, 7), plus(3), plus(4)}, {ratio(-22, 7), minus(4), minus(3)}, {ratio(-20, 1), minus(20), minus(20)},
		{ratio(math.MaxInt64, 1), plus(0xffffffff, 0x7fffffff), plus(0xffffffff, 0x7fffffff)},
		{ratio(math.MinInt64, 1), minus(0, 0x80000000), minus(0, 0x80000000)},
		{ratio(math.MaxInt64, 2), plus(0xffffffff, 0x3fffffff), plus(0, 0x40000000)},
		{ratio(math.MinInt64, 3), minus(0xaaaaaaab, 0x2aaaaaaa), minus(0xaaaaaaaa, 0x2aaaaaaa)},
		{api.Q{Num: plus(1, 0, 0, 1), Den: plus(0, 1)}, plus(0, 0, 1), plus(1, 0, 1)},
		{api.Q{Num: minus(1, 0, 0, 1), Den: plus(0, 1)}, minus(1, 0, 1), minus(0, 0, 1)},
		{api.Q{Num: plus(0xffffffff, 0xffffffff, 0xffffffff), Den: plus(0, 0, 1)}, plus(0xffffffff), plus(0, 1)},
		{api.Q{Num: minus(0xffffffff, 0xffffffff, 0xffffffff), Den: plus(0, 0, 1)}, minus(0, 1), minus(0xffffffff)},
		{api.Q{Num: minus(1), Den: plus(1, 2, 3, 4)}, minus(1), plus()}, {api.Q{Num: plus(1), Den: plus(1, 2, 3, 4)}, plus(), plus(1)},
		{api.Q{Num: minus(5, 6, 7)}, minus(5, 6, 7), minus(5, 6, 7)},
	} {
		for _, a := range forms(x.a) {
			wantZ(t, "Floor", frac.Floor(a), x.floor)
			wantZ(t, "Ceil", frac.Ceil(a), x.ceil)
		}
	}
}

func TestP22SmallValues(t *testing.T) {
	for num := int64(-60); num <= 60; num++ {
		for den := int64(1); den <= 20; den++ {
			floor := num / den
			if floor*den > num {
				floor--
			}
			ceil := floor
			if ceil*den < num {
				ceil++
			}
			for _, a := range []api.Q{ratio(num, den), {Num: ratio(-num, 1).Num, Den: ratio(-den, 1).Num}} {
				wantZ(t, "Floor", frac.Floor(a), ratio(floor, 1).Num)
				wantZ(t, "Ceil", frac.Ceil(a), ratio(ceil, 1).Num)
			}
		}
	}
}

func TestP22LongValues(t *testing.T) {
	g := generator(22)
	for range 1500 {
		p := g.rational(1 + int(g.next(12)))
		for _, a := range someForms(p) {
			floor, ceil := frac.Floor(a), frac.Ceil(a)
			if !isTrimmed(floor) || !isTrimmed(ceil) {
				t.Errorf("Floor and Ceil of %v = %v and %v, which are not canonical", a, floor, ceil)
			}
			rest, lack := whole.Sub(p.Num, whole.Mul(floor, below(p))), whole.Sub(whole.Mul(ceil, below(p)), p.Num)
			if whole.Sign(rest) < 0 || whole.Cmp(rest, below(p)) >= 0 || whole.Sign(lack) < 0 || whole.Cmp(lack, below(p)) >= 0 {
				t.Errorf("Floor and Ceil of %v = %v and %v", a, floor, ceil)
			}
		}
	}
}
