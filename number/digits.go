package number

import (
	"cmp"
	"math/bits"

	"headend/api"
)

// The functions of this file take numbers of any length, because what fractions are made of may be too large before it is reduced.

// digitBase is the base of the digits of a natural number.
const digitBase = 1 << 32

// unsigned are the types of digits.
type unsigned interface{ ~uint8 | ~uint32 }

// carry returns the digits to a base of a sum of columns: what a column has too much for a digit is carried on to the next one. All columns above the lowest one have to be below 2^63.
func carry[D unsigned](columns []uint64, base uint64) []D {
	digits := make([]D, 0, len(columns)+1)
	more := uint64(0)
	for _, column := range columns {
		more += column
		digits = append(digits, D(more%base))
		more /= base
	}
	for ; more > 0; more /= base {
		digits = append(digits, D(more%base))
	}
	return trim(digits)
}

// scale returns the digits to a base of a number times a factor, plus one more number.
func scale[D unsigned](digits []D, base, factor, more uint64) []D {
	columns := make([]uint64, len(digits)+1)
	for i, d := range digits {
		columns[i] = uint64(d) * factor
	}
	columns[0] += more
	return carry[D](columns, base)
}

// trim returns digits without the zeros at their end.
func trim[D unsigned](digits []D) []D {
	for len(digits) > 0 && digits[len(digits)-1] == 0 {
		digits = digits[:len(digits)-1]
	}
	return digits
}

// order returns -1, 0 or 1: whether a is less than b, equal, or greater.
func order(a, b api.Natural) int {
	if c := cmp.Compare(len(a), len(b)); c != 0 {
		return c
	}
	for i := len(a) - 1; i >= 0; i-- {
		if c := cmp.Compare(a[i], b[i]); c != 0 {
			return c
		}
	}
	return 0
}

func sum(a, b api.Natural) api.Natural {
	columns := make([]uint64, max(len(a), len(b)))
	for i, d := range a {
		columns[i] = uint64(d)
	}
	for i, d := range b {
		columns[i] += uint64(d)
	}
	return carry[uint32](columns, digitBase)
}

// difference returns a - b, where a is not less than b.
func difference(a, b api.Natural) api.Natural {
	digits := make(api.Natural, len(a))
	copy(digits, a)
	borrow := uint32(0)
	for i := range digits {
		d := uint32(0)
		if i < len(b) {
			d = b[i]
		}
		digits[i], borrow = bits.Sub32(digits[i], d, borrow)
	}
	return trim(digits)
}

func product(a, b api.Natural) api.Natural {
	columns := make([]uint64, len(a)+len(b))
	for i, x := range a {
		for j, y := range b {
			// The halves are summed apart, so that no column overflows.
			p := uint64(x) * uint64(y)
			columns[i+j] += p % digitBase
			columns[i+j+1] += p / digitBase
		}
	}
	return carry[uint32](columns, digitBase)
}

// commonDivisor returns the greatest number that divides both numbers, or the other one if one of them is 0.
func commonDivisor(a, b api.Natural) api.Natural {
	// The sum with 0 is a copy.
	a, b = sum(a, nil), sum(b, nil)
	for len(b) > 0 {
		_, rest := divide(a, b)
		a, b = b, rest
	}
	return a
}
