package code

import "headend/api"

// choices returns how many ways there are to choose 0, 1, and so on, up to n, of n things.
func choices(n int) []api.Natural {
	l := []api.Natural{natural(1)}
	for i := range n {
		l = append(l, quotient(product(l[i], natural(n-i)), natural(i+1)))
	}
	return l
}

// tails returns the tails of d, k and each x from -1 to k, in this order.
func tails(d, k int) []chance {
	marked, others, all := choices(k), choices(2*d-k), choices(2 * d)[d]
	cases := natural(0)
	l := []chance{{cases, all}}
	for i, n := range marked {
		if isWithin(d-i, 0, len(others)-1) {
			cases = sum(cases, product(n, others[d-i]))
		}
		l = append(l, chance{cases, all})
	}
	return l
}

// Tail returns the chance that the first of two blocks of d places has at most x of k marked places.
func Tail(d, k, x int) (api.Fraction, api.Errno) {
	if !isWithin(d, 1, api.MaxBlock) || !isWithin(k, 0, 2*d) || !isWithin(x, -1, k) {
		return api.Fraction{}, api.ErrArg
	}
	return tails(d, k)[x+1].fraction(), api.OK
}

// threshold returns the greatest x from -1 to k whose tail is at most a limit.
func threshold(d, k int, limit api.Fraction) int {
	x := -1
	for i, tail := range tails(d, k) {
		if tail.isAtMost(limit) {
			x = i - 1
		}
	}
	return x
}
