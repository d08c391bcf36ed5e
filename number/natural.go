// Package number is layer 1: natural numbers, fractions, and arithmetic modulo a number; see shared/doc/01-number.md.
package number

import "headend/api"

// Of returns a natural number.
func Of(n uint64) api.Natural { return carry[uint32]([]uint64{n}, digitBase) }

// Check returns ErrBad unless a natural number is valid.
func Check(a api.Natural) api.Errno { return checkAll(a) }

// checkAll returns ErrBad unless all numbers are valid.
func checkAll(numbers ...api.Natural) api.Errno {
	for _, a := range numbers {
		if tooLarge(a) || len(a) > 0 && a[len(a)-1] == 0 {
			return api.ErrBad
		}
	}
	return api.OK
}

// tooLarge reports whether a number has no valid form.
func tooLarge(a api.Natural) bool { return len(a) > api.MaxLimbs }

// fit returns a new number, or ErrMany if it is too large.
func fit(a api.Natural) (api.Natural, api.Errno) {
	if tooLarge(a) {
		return nil, api.ErrMany
	}
	return a, api.OK
}

// Compare returns -1, 0 or 1: whether a is less than b, equal, or greater.
func Compare(a, b api.Natural) (int, api.Errno) {
	if e := checkAll(a, b); e != api.OK {
		return 0, e
	}
	return order(a, b), api.OK
}

// Add returns the sum of two numbers.
func Add(a, b api.Natural) (api.Natural, api.Errno) {
	if e := checkAll(a, b); e != api.OK {
		return nil, e
	}
	return fit(sum(a, b))
}

// Sub returns the difference of two numbers.
func Sub(a, b api.Natural) (api.Natural, api.Errno) {
	if e := checkAll(a, b); e != api.OK {
		return nil, e
	}
	if order(a, b) < 0 {
		return nil, api.ErrLess
	}
	return difference(a, b), api.OK
}

// Mul returns the product of two numbers.
func Mul(a, b api.Natural) (api.Natural, api.Errno) {
	if e := checkAll(a, b); e != api.OK {
		return nil, e
	}
	return fit(product(a, b))
}

// Div returns the quotient of two numbers, and the rest.
func Div(a, b api.Natural) (quotient, rest api.Natural, e api.Errno) {
	if e := checkAll(a, b); e != api.OK {
		return nil, nil, e
	}
	if len(b) == 0 {
		return nil, nil, api.ErrZero
	}
	quotient, rest = divide(a, b)
	return quotient, rest, api.OK
}

// Gcd returns the greatest common divisor of two numbers.
func Gcd(a, b api.Natural) (api.Natural, api.Errno) {
	if e := checkAll(a, b); e != api.OK {
		return nil, e
	}
	return commonDivisor(a, b), api.OK
}
