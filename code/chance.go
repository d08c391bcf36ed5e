package code

import (
	"headend/api"
	"headend/number"
)

// The numbers of this package are at most 2^448: no more than 32^64 cases, times a part of a limit. So there is no error in their sums, products and quotients.

func natural(n int) api.Natural { return number.Of(uint64(n)) }

func sum(a, b api.Natural) api.Natural {
	n, _ := number.Add(a, b)
	return n
}

func product(a, b api.Natural) api.Natural {
	n, _ := number.Mul(a, b)
	return n
}

func quotient(a, b api.Natural) api.Natural {
	n, _, _ := number.Div(a, b)
	return n
}

// isLimit reports whether a fraction is a limit.
func isLimit(f api.Fraction) bool {
	if len(f.Num) > api.MaxShort || len(f.Den) > api.MaxShort {
		return false
	}
	order, e := number.CompareFractions(f, api.Fraction{Num: natural(1), Den: natural(1)})
	return e == api.OK && order < 0
}

// chance is how many there are of all cases, which are equally likely. It is not reduced: comparing it with a limit is much faster than reducing it.
type chance struct{ cases, all api.Natural }

func (c chance) fraction() api.Fraction {
	f, _ := number.Ratio(c.cases, c.all)
	return f
}

func (c chance) isAtMost(limit api.Fraction) bool {
	order, _ := number.Compare(product(c.cases, limit.Den), product(limit.Num, c.all))
	return order <= 0
}
