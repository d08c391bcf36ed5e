package number

import "headend/api"

// maxModulus is the greatest number modulo which is computed: products of two numbers below it do not overflow.
const maxModulus = 1<<32 - 1

// checkModulus returns ErrArg unless m is from 1 to 2^32 - 1.
func checkModulus(m uint64) api.Errno {
	if m < 1 || m > maxModulus {
		return api.ErrArg
	}
	return api.OK
}

// PowMod returns a power modulo m.
func PowMod(b, n, m uint64) (uint64, api.Errno) {
	if e := checkModulus(m); e != api.OK {
		return 0, e
	}
	return power(b, n, m), api.OK
}

func power(b, n, m uint64) uint64 {
	result := 1 % m
	for square := b % m; n > 0; n /= 2 {
		if n%2 == 1 {
			result = result * square % m
		}
		square = square * square % m
	}
	return result
}

// InvMod returns the inverse of a number modulo m.
func InvMod(a, m uint64) (uint64, api.Errno) {
	if e := checkModulus(m); e != api.OK {
		return 0, e
	}
	// Each of the two rests is a multiple of a, modulo m: times what stands beside it.
	rest, times := m, uint64(0)
	for next, nextTimes := a%m, uint64(1); next > 0; {
		q := rest / next
		rest, next = next, rest%next
		times, nextTimes = nextTimes, (times+m-q*nextTimes%m)%m
	}
	if rest != 1 {
		return 0, api.ErrZero
	}
	return times, api.OK
}

// Prime reports whether a number is a prime.
func Prime(n uint64) (bool, api.Errno) {
	if n > api.MaxPrime {
		return false, api.ErrMany
	}
	divisor := uint64(2)
search:
	for {
		switch {
		case divisor*divisor > n:
			break search
		case n%divisor == 0:
			return false, api.OK
		default:
			divisor++
		}
	}
	return n >= 2, api.OK
}

// CheckGroup returns ErrGroup unless a group is valid.
func CheckGroup(g api.Group) api.Errno {
	for _, n := range []uint64{g.P, g.Q} {
		if is, e := Prime(n); e != api.OK || !is {
			return api.ErrGroup
		}
	}
	if (g.P-1)%g.Q != 0 || g.G < 2 || g.G >= g.P || power(g.G, g.Q, g.P) != 1 {
		return api.ErrGroup
	}
	return api.OK
}
