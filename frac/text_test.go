package frac_test

import (
	"math"
	"strconv"
	"strings"
	"testing"

	"pylon/api"
	"pylon/frac"
	"pylon/whole"
)

func TestP23Values(t *testing.T) {
	for _, x := range []struct {
		s string
		a api.Q
	}{
		{"0", api.Q{}}, {"1", ratio(1, 1)}, {"-1", ratio(-1, 1)}, {"10", ratio(10, 1)}, {"-700", ratio(-700, 1)},
		{"1/2", ratio(1, 2)}, {"-1/2", ratio(-1, 2)}, {"-7/3", ratio(-7, 3)}, {"22/7", ratio(22, 7)}, {"3/10", ratio(3, 10)}, {"10/3", ratio(10, 3)},
		{"9223372036854775807", ratio(math.MaxInt64, 1)}, {"-9223372036854775808", ratio(math.MinInt64, 1)},
		{"-9223372036854775808/3", ratio(math.MinInt64, 3)}, {"-1/9223372036854775808", ratio(1, math.MinInt64)},
		{"9223372036854775807/9223372036854775806", ratio(math.MaxInt64, math.MaxInt64-1)},
		{"18446744073709551616", api.Q{Num: plus(0, 0, 1)}}, {"-1/18446744073709551616", api.Q{Num: minus(1), Den: plus(0, 0, 1)}},
		{"340282366920938463463374607431768211457/18446744073709551616", api.Q{Num: plus(1, 0, 0, 0, 1), Den: plus(0, 0, 1)}},
	} {
		for _, a := range forms(x.a) {
			if got := frac.Format(a); got != x.s {
				t.Errorf("Format(%v) = %q, want %q", a, got, x.s)
			}
		}
		got, e := frac.Parse(x.s)
		wantQ(t, "Parse of "+x.s, got, x.a)
		if e != api.OK {
			t.Errorf("Parse(%q) returned error %d", x.s, e)
		}
	}
}

func TestP23SmallValues(t *testing.T) {
	for num := -40; num <= 40; num++ {
		text := strconv.Itoa(num)
		wantQ(t, "Parse of "+text, parse(t, text), ratio(int64(num), 1))
		wantError(t, text+"/0", api.ErrForm)
		for den := 1; den <= 40; den++ {
			// Only a reduced fraction keeps its denominator.
			a := ratio(int64(num), int64(den))
			s := text + "/" + strconv.Itoa(den)
			wantError(t, text+"/-"+strconv.Itoa(den), api.ErrForm)
			if len(a.Den.W) == 0 || a.Den.W[0] != uint32(den) {
				wantError(t, s, api.ErrForm)
				continue
			}
			wantQ(t, "Parse of "+s, parse(t, s), a)
			if got := frac.Format(a); got != s {
				t.Errorf("Format(%v) = %q, want %q", a, got, s)
			}
		}
	}
}

// wantError checks that Parse returns the error and no value.
func wantError(t *testing.T, s string, want api.Errno) {
	t.Helper()
	if a, e := frac.Parse(s); e != want || !same(a, api.Q{}) {
		t.Errorf("Parse(%q) = %v, %d, want 0, %d", s, a, e, want)
	}
}

func TestP23Malformed(t *testing.T) {
	for _, s := range []string{
		"", "-", "-0", "+1", "00", "01", "007", "--1", "1-", " 1", "1 ", "1.5", ".5", "1e3", "0x1", "1_0", "½", "１", "x", "NaN", "\x00", "\xff",
		"2/4", "-2/4", "3/1", "-3/1", "0/1", "0/5", "-0/5", "0/0", "1/0", "-1/0", "5/5", "4/2", "6/3", "1000000000000/2000000000000",
		"1/-2", "-1/-2", "1/-1", "1/-0", "0/-1", "1/+2", "+1/2", "-/2", "1/-", "--1/2", "1/--2", "/", "-/", "/-", "1/", "-1/", "/2", "/-2", "0/", "/0",
		"//", "1//2", "/1/2", "1/2/", "1/2/3", "1/2/1", "1/3/1/2", "///", "1/2/2/3", "01/2", "1/02", "1/00", "00/1", "-01/2", "1/2x", "x/2", "1/x", "x/y",
		"1 /2", "1/ 2", " 1/2", "1/2 ", "1/2\n", "1\\2", "1:2", "1÷2", "1⁄2", "1∕2", "1／2", "1.0/2", "1/2.0",
	} {
		wantError(t, s, api.ErrForm)
	}
	for c := range 256 {
		other := string([]byte{byte(c)})
		if c < '0' || c > '9' {
			for _, s := range []string{"1" + other + "/2", "1/" + other + "2", "1/2" + other, "11/1" + other + "2"} {
				wantError(t, s, api.ErrForm)
			}
			if c != '-' {
				wantError(t, other+"1/2", api.ErrForm)
			}
			if c != '/' {
				wantError(t, "1"+other+"2", api.ErrForm)
			}
		}
	}
}

func TestP23Limit(t *testing.T) {
	most := strings.Repeat("7", api.MaxDigits)
	nines := strings.Repeat("9", api.MaxDigits)
	power := "1" + strings.Repeat("0", api.MaxDigits-1)
	for _, s := range []string{
		most, "-" + most, power, "1/" + most, "-1/" + power, power + "/7", "-" + power + "/3", power + "/" + nines, "-" + nines + "/" + power,
	} {
		a := parse(t, s)
		wantCanonical(t, "Parse of "+s, a)
		if got := frac.Format(a); got != s {
			t.Errorf("Format of Parse(%q) = %q", s, got)
		}
	}
	long, junk := most+"7", strings.Repeat("x", api.MaxDigits+1)
	for _, s := range []string{
		long, "-" + long, junk, "-" + junk, strings.Repeat("0", api.MaxDigits+1), "+" + most, "--" + most,
		long + "/", "/" + long, "/-" + long, "-" + long + "/", long + "/2", "-" + long + "/2", "1/" + long, "-1/" + long, "1/-" + long, long + "/" + long,
		long + "/0", "0/" + long, long + "/x", "x/" + long, long + "/-", "-/" + long, "2/4" + long, junk + "/2", "1/" + junk, "x/" + junk, junk + "/x",
		junk + "/" + junk, "1/-" + junk, "-/-" + junk, "1/0" + most, "0" + most + "/1", "1/+" + most, "+" + most + "/1",
		long + "/1/2", "1/2/" + most, "1/" + strings.Repeat("/", api.MaxDigits+1), "/" + strings.Repeat("1/", api.MaxDigits), "//" + most,
		"1/" + strings.Repeat("é", api.MaxDigits/2+1), "5/" + most[:500] + "/" + most[:500],
	} {
		wantError(t, s, api.ErrLong)
	}
	for _, s := range []string{
		most + "/" + most, most + "/1", most + "/0", "0/" + most, "1/-" + most, "-" + most + "/-" + most, "0" + most[1:] + "/2", "1/0" + most[1:],
		"/" + most, most + "/", "/-" + most, "-/-" + most, "x/" + most, most + "/x", "-" + most + "/x", "1/x" + most[1:], "x" + most[1:] + "/1",
		"1/2/" + most[2:], "5/" + most[:500] + "/" + most[501:], most[:500] + "/" + most[:500] + "/" + most[:499], "/" + strings.Repeat("/", api.MaxDigits),
		most[1:] + "/0" + most[1:], "1/" + strings.Repeat("é", api.MaxDigits/2), strings.Repeat("x", api.MaxDigits) + "/" + strings.Repeat("y", api.MaxDigits),
	} {
		wantError(t, s, api.ErrForm)
	}
}

func TestP23LongValues(t *testing.T) {
	g := generator(23)
	for range 800 {
		a := g.rational(1 + int(g.next(60)))
		s := whole.Format(a.Num)
		if len(a.Den.W) > 0 {
			s += "/" + whole.Format(a.Den)
		}
		for _, x := range someForms(a) {
			if got := frac.Format(x); got != s {
				t.Errorf("Format(%v) = %q, want %q", x, got, s)
			}
		}
		wantQ(t, "Parse of "+s, parse(t, s), a)
		for _, k := range []api.Z{plus(2), plus(9), plus(0, 0, 1)} {
			wantError(t, whole.Format(whole.Mul(a.Num, k))+"/"+whole.Format(whole.Mul(below(a), k)), api.ErrForm)
		}
	}
}
