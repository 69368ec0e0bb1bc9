package whole_test

import (
	"strconv"
	"strings"
	"testing"

	"pylon/api"
	"pylon/whole"
)

func TestP13Values(t *testing.T) {
	for _, x := range []struct {
		s string
		a api.Z
	}{
		{"0", plus()}, {"1", plus(1)}, {"-1", minus(1)}, {"9", plus(9)}, {"10", plus(10)}, {"-100", minus(100)},
		{"999999999", plus(999999999)}, {"1000000000", plus(1000000000)}, {"-1000000001", minus(1000000001)},
		{"4294967295", plus(0xffffffff)}, {"4294967296", plus(0, 1)}, {"9999999999", plus(0x540be3ff, 2)},
		{"9223372036854775807", plus(0xffffffff, 0x7fffffff)}, {"-9223372036854775808", minus(0, 0x80000000)},
		{"18446744073709551615", plus(0xffffffff, 0xffffffff)}, {"18446744073709551616", plus(0, 0, 1)},
		{"-340282366920938463463374607431768211455", minus(0xffffffff, 0xffffffff, 0xffffffff, 0xffffffff)},
		{"340282366920938463463374607431768211456", plus(0, 0, 0, 0, 1)},
		{"1000000000000000000000000000000", plus(0x40000000, 0x4674edea, 0x9f2c9cd0, 0xc)},
	} {
		for _, a := range forms(x.a) {
			if got := whole.Format(a); got != x.s {
				t.Errorf("Format(%v) = %q, want %q", a, got, x.s)
			}
		}
		got, e := whole.Parse(x.s)
		wantZ(t, "Parse of "+x.s, got, x.a)
		if e != api.OK {
			t.Errorf("Parse(%q) returned error %d", x.s, e)
		}
	}
}

func TestP13Int64Values(t *testing.T) {
	g := generator(13)
	for range 3000 {
		n := int64(g.next(1<<44)) << g.next(20) >> g.next(50)
		for _, n := range []int64{n, -n} {
			s := strconv.FormatInt(n, 10)
			if got := whole.Format(whole.FromInt64(n)); got != s {
				t.Errorf("Format of %s = %q", s, got)
			}
			got, e := whole.Parse(s)
			wantZ(t, "Parse of "+s, got, whole.FromInt64(n))
			if e != api.OK {
				t.Errorf("Parse(%q) returned error %d", s, e)
			}
		}
	}
}

// digitsModulo returns the residue of decimal digits.
func digitsModulo(digits string, m uint64) uint64 {
	var r uint64
	for i := range len(digits) {
		r = (r*10 + uint64(digits[i]-'0')) % m
	}
	return r
}

func TestP13LongValues(t *testing.T) {
	g := generator(131)
	for n := 1; n <= api.MaxDigits; n += 1 + n/40 {
		random := []byte{byte('1' + g.next(9))}
		for len(random) < n {
			random = append(random, byte('0'+g.next(10)))
		}
		for _, digits := range []string{string(random), strings.Repeat("9", n), "1" + strings.Repeat("0", n-1), strings.Repeat("1000000000", n)[:n]} {
			a, e := whole.Parse(digits)
			b, f := whole.Parse("-" + digits)
			if e != api.OK || f != api.OK || a.Neg || !b.Neg || !same(a, whole.Neg(b)) {
				t.Fatalf("Parse of %s and its negative returned %v, %d and %v, %d", digits, a, e, b, f)
			}
			wantCanonical(t, "Parse", a)
			for _, m := range moduli() {
				if residue(a, m) != digitsModulo(digits, m) {
					t.Fatalf("Parse(%q) = %v", digits, a)
				}
			}
			if whole.Format(a) != digits || whole.Format(b) != "-"+digits {
				t.Fatalf("Format of %s and its negative returned %q and %q", digits, whole.Format(a), whole.Format(b))
			}
		}
	}
}

// wantError checks that Parse returns the error and no value.
func wantError(t *testing.T, s string, want api.Errno) {
	t.Helper()
	if a, e := whole.Parse(s); e != want || !same(a, plus()) {
		t.Errorf("Parse(%q) = %v, %d, want 0, %d", s, a, e, want)
	}
}

func TestP13Malformed(t *testing.T) {
	for _, s := range []string{
		"", "-", "--", "-0", "-00", "+1", "+0", "007", "00", "01", "-01", "-007", "--1", "-+1", "1-", "1-1", "-1-", " 1", "1 ", " ", "1\n", "\t1",
		"1e3", "0x1", "0b1", "1_000", "1,000", "1.0", "1.", ".5", "1/1", "abc", "ABC", "\x00", "1\x00", "\xff", "１２", "١٢", "−1", "½", "∞", "NaN",
	} {
		wantError(t, s, api.ErrForm)
	}
	for c := range 256 {
		if c >= '0' && c <= '9' {
			continue
		}
		other := string([]byte{byte(c)})
		if c != '-' {
			wantError(t, other+"12", api.ErrForm)
		}
		for _, s := range []string{other, "1" + other + "2", "12" + other, "-" + other + "12", "-12" + other, strings.Repeat("5", 500) + other} {
			wantError(t, s, api.ErrForm)
		}
	}
}

func TestP13Limit(t *testing.T) {
	digits := strings.Repeat("7", api.MaxDigits)
	for _, s := range []string{digits, "-" + digits, "1" + strings.Repeat("0", api.MaxDigits-1), digits[1:]} {
		if got := whole.Format(parse(t, s)); got != s {
			t.Errorf("Format of Parse(%q) = %q", s, got)
		}
	}
	for _, s := range []string{
		digits + "7", "-" + digits + "7", digits + digits, strings.Repeat("0", api.MaxDigits+1), "0" + digits, "+" + digits, "--" + digits,
		" " + digits, digits + "x", strings.Repeat("x", api.MaxDigits+1), "-" + strings.Repeat("-", api.MaxDigits+1), strings.Repeat("é", api.MaxDigits/2+1),
	} {
		wantError(t, s, api.ErrLong)
	}
	for _, s := range []string{
		strings.Repeat("0", api.MaxDigits), "-" + strings.Repeat("0", api.MaxDigits), strings.Repeat("x", api.MaxDigits),
		"0" + digits[1:], "+" + digits[1:], "--" + digits[1:], digits[1:] + "x", strings.Repeat("é", api.MaxDigits/2),
	} {
		wantError(t, s, api.ErrForm)
	}
}

func TestP13Memory(t *testing.T) {
	for _, a := range []api.Z{{}, minus(), minus(0, 0), plus(7), minus(1, 2, 3), plus(0, 0, 9, 0)} {
		wantApart(t, "Format", a, api.Z{}, func(a, _ api.Z) []api.Z {
			return []api.Z{parse(t, whole.Format(a))}
		})
	}
	// Every call of Parse returns memory of its own.
	for _, s := range []string{"5", "-123456789012345678901234567890"} {
		a, b := parse(t, s), parse(t, s)
		clear(a.W)
		if whole.Format(b) != s || whole.Format(parse(t, s)) != s {
			t.Errorf("results of Parse(%q) share memory", s)
		}
	}
}
