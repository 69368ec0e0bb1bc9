package frac

import (
	"pylon/api"
	"pylon/whole"
)

// The separator stands between the numerator and the denominator of a fraction.
const separator = '/'

// Format returns the textual representation of a.
func Format(a api.Q) string {
	c := Canonical(a)
	if len(c.Den.W) == 0 {
		return whole.Format(c.Num)
	}
	return whole.Format(c.Num) + string(separator) + whole.Format(c.Den)
}

// Parse returns the rational with the textual representation s.
func Parse(s string) (api.Q, api.Errno) {
	before, after, is := split(s)
	if !is {
		num, e := whole.Parse(s)
		return api.Q{Num: num}, e
	}
	num, e := whole.Parse(before)
	den, f := whole.Parse(after)
	if e == api.ErrLong || f == api.ErrLong {
		return api.Q{}, api.ErrLong
	}
	a := api.Q{Num: num, Den: den}
	// A denominator of 0 has to be ruled out because it counts as 1 and would be canonical.
	if e != api.OK || f != api.OK || whole.Sign(den) == 0 || !IsCanonical(a) {
		return api.Q{}, api.ErrForm
	}
	return a, api.OK
}

// split returns the texts before and after the first separator of s, and whether s has one.
func split(s string) (before, after string, is bool) {
search:
	for i := range len(s) {
		switch s[i] {
		case separator:
			before, after, is = s[:i], s[i+1:], true
			break search
		}
	}
	return before, after, is
}
