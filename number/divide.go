package number

import (
	"math/bits"

	"headend/api"
)

// divide returns the quotient of two numbers, and the rest; b is not 0. It is long division, with both numbers shifted such that b begins with a 1: then a guess from two digits is at most two too large.
func divide(a, b api.Natural) (quotient, rest api.Natural) {
	shift := bits.LeadingZeros32(b[len(b)-1])
	u, v := shiftUp(a, shift), trim(shiftUp(b, shift))
	if len(u) <= len(v) {
		return nil, shiftDown(u, shift)
	}
	quotient = make(api.Natural, len(u)-len(v))
	for i := len(quotient) - 1; i >= 0; i-- {
		part := u[i : i+len(v)+1]
		digit := guess(part, v)
		if takeOff(part, v, digit) {
			digit--
			giveBack(part, v)
		}
		quotient[i] = uint32(digit)
	}
	return trim(quotient), shiftDown(u, shift)
}

// shiftUp returns the digits of a number, shifted by less than 32 bits, with one more digit at the end.
func shiftUp(a api.Natural, shift int) api.Natural {
	digits := make(api.Natural, len(a)+1)
	for i, d := range a {
		wide := uint64(d) << shift
		digits[i] |= uint32(wide)
		digits[i+1] = uint32(wide >> 32)
	}
	return digits
}

// shiftDown returns the number whose digits, shifted up, are given.
func shiftDown(digits api.Natural, shift int) api.Natural {
	a := make(api.Natural, len(digits))
	above := uint32(0)
	for i := len(digits) - 1; i >= 0; i-- {
		wide := uint64(above)<<32 | uint64(digits[i])
		a[i] = uint32(wide >> shift)
		above = digits[i]
	}
	return trim(a)
}

// guess returns the quotient of u by v, or one more; u has one digit more than v, and is less than v times the base.
func guess(u, v api.Natural) uint64 {
	n := len(v)
	top, lead := uint64(u[n])<<32|uint64(u[n-1]), uint64(v[n-1])
	q, r := top/lead, top%lead
correct:
	for n > 1 {
		switch {
		case r >= digitBase:
			break correct
		case q >= digitBase || q*uint64(v[n-2]) > r<<32|uint64(u[n-2]):
			q--
			r += lead
		default:
			break correct
		}
	}
	return q
}

// takeOff subtracts q times v from u, and reports whether u was too small for it.
func takeOff(u, v api.Natural, q uint64) bool {
	more, borrow := uint64(0), uint32(0)
	for i, d := range v {
		more += q * uint64(d)
		u[i], borrow = bits.Sub32(u[i], uint32(more), borrow)
		more >>= 32
	}
	n := len(v)
	u[n], borrow = bits.Sub32(u[n], uint32(more), borrow)
	return borrow == 1
}

// giveBack adds v to u, after too much was taken off.
func giveBack(u, v api.Natural) {
	over := uint32(0)
	for i, d := range v {
		u[i], over = bits.Add32(u[i], d, over)
	}
	u[len(v)] += over
}
