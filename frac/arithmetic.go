package frac

import (
	"pylon/api"
	"pylon/whole"
)

// Add returns a + b.
func Add(a, b api.Q) api.Q {
	return operate('+', a, b)
}

// Sub returns a - b.
func Sub(a, b api.Q) api.Q {
	return operate('-', a, b)
}

// Mul returns a b.
func Mul(a, b api.Q) api.Q {
	return operate('*', a, b)
}

// Div returns a/b, or ErrZero if b equals 0.
func Div(a, b api.Q) (api.Q, api.Errno) {
	if Sign(b) == 0 {
		return api.Q{}, api.ErrZero
	}
	return operate('/', a, b), api.OK
}

// An operation computes a numerator and a denominator of its result, not necessarily coprime, from upright operands.
type operation struct {
	num, den func(a, b api.Q) api.Z
}

// operate applies the operation with the given sign.
func operate(sign rune, a, b api.Q) api.Q {
	// A map that does not leave its function needs no allocation, which would slow down every operation.
	operations := map[rune]operation{
		'+': {num: func(a, b api.Q) api.Z { return whole.Add(cross(a, b), cross(b, a)) }, den: below},
		'-': {num: func(a, b api.Q) api.Z { return whole.Sub(cross(a, b), cross(b, a)) }, den: below},
		'*': {num: above, den: below},
		'/': {num: cross, den: func(a, b api.Q) api.Z { return cross(b, a) }},
	}
	chosen := operations[sign]
	x, y := upright(a), upright(b)
	return quotient(chosen.num(x, y), chosen.den(x, y))
}

// above returns the product of the numerators, below that of the denominators.
func above(a, b api.Q) api.Z { return whole.Mul(a.Num, b.Num) }
func below(a, b api.Q) api.Z { return whole.Mul(a.Den, b.Den) }

// cross returns the numerator of a when the product of the denominators is the denominator.
func cross(a, b api.Q) api.Z { return whole.Mul(a.Num, b.Den) }
