package number

import "headend/api"

// Ratio returns the fraction of two numbers.
func Ratio(num, den api.Natural) (api.Fraction, api.Errno) {
	if e := checkAll(num, den); e != api.OK {
		return api.Fraction{}, e
	}
	if len(den) == 0 {
		return api.Fraction{}, api.ErrZero
	}
	return reduce(num, den)
}

// reduce returns the valid fraction that is equal to num / den, where den is not 0, or ErrMany if a part of it is too large.
func reduce(num, den api.Natural) (api.Fraction, api.Errno) {
	common := commonDivisor(num, den)
	num, _ = divide(num, common)
	den, _ = divide(den, common)
	if tooLarge(num) || tooLarge(den) {
		return api.Fraction{}, api.ErrMany
	}
	return api.Fraction{Num: num, Den: den}, api.OK
}

// CheckFraction returns ErrBad unless a fraction is valid.
func CheckFraction(f api.Fraction) api.Errno {
	if e := checkAll(f.Num, f.Den); e != api.OK {
		return e
	}
	if order(commonDivisor(f.Num, f.Den), Of(1)) != 0 || len(f.Den) == 0 {
		return api.ErrBad
	}
	return api.OK
}

// pair is two fractions that an operation takes.
type pair struct{ f, g api.Fraction }

// operate hands the fractions of a pair to an operation if both are valid.
func (p pair) operate(operation func(f, g api.Fraction) api.Errno) api.Errno {
	for _, f := range []api.Fraction{p.f, p.g} {
		if e := CheckFraction(f); e != api.OK {
			return e
		}
	}
	return operation(p.f, p.g)
}

// CompareFractions returns -1, 0 or 1: whether f is less than g, equal, or greater.
func CompareFractions(f, g api.Fraction) (int, api.Errno) {
	result := 0
	e := pair{f, g}.operate(func(f, g api.Fraction) api.Errno {
		result = order(product(f.Num, g.Den), product(g.Num, f.Den))
		return api.OK
	})
	return result, e
}

// AddFractions returns the sum of two fractions.
func AddFractions(f, g api.Fraction) (api.Fraction, api.Errno) {
	var result api.Fraction
	e := pair{f, g}.operate(func(f, g api.Fraction) (e api.Errno) {
		num := sum(product(f.Num, g.Den), product(g.Num, f.Den))
		result, e = reduce(num, product(f.Den, g.Den))
		return e
	})
	return result, e
}

// MulFractions returns the product of two fractions.
func MulFractions(f, g api.Fraction) (api.Fraction, api.Errno) {
	var result api.Fraction
	e := pair{f, g}.operate(func(f, g api.Fraction) (e api.Errno) {
		result, e = reduce(product(f.Num, g.Num), product(f.Den, g.Den))
		return e
	})
	return result, e
}
