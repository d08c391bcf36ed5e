package number_test

import (
	"math/big"
	"math/rand"
	"slices"
	"testing"

	"headend/api"
	"headend/number"
)

// top is 2^32 - 1, the greatest digit.
const top = 1<<32 - 1

// repeated returns n digits d.
func repeated(d uint32, n int) api.Natural {
	return slices.Repeat(api.Natural{d}, n)
}

// greatest returns 2^512 - 1, the greatest number with a valid form.
func greatest() api.Natural { return repeated(top, api.MaxLimbs) }

// powerOfTwo returns 2^n.
func powerOfTwo(n int) api.Natural {
	a := make(api.Natural, n/32+1)
	a[n/32] = 1 << (n % 32)
	return a
}

// invalid returns natural numbers that are not valid.
func invalid() []api.Natural {
	return []api.Natural{
		{0},
		{1, 0},
		repeated(0, 2),
		append(repeated(1, 15), 0),
		repeated(0, 16),
		repeated(1, 17),
		append(repeated(0, 16), 1),
		append(greatest(), 0),
		repeated(top, 1000),
	}
}

// edges returns valid numbers at the edges of digits and limits.
func edges() []api.Natural {
	return []api.Natural{
		nil, {}, {1}, {2}, {10}, {1 << 31}, {top - 1}, {top}, {0, 1}, {1, 1}, {top, top}, {0, 1 << 31}, {top, top - 1},
		{0, 0, 1}, {0, top, 1 << 31}, {top, 0, top}, {0, 0, 1 << 31}, {1, 0, 1 << 31}, {0, top - 1, 1 << 31},
		powerOfTwo(255), powerOfTwo(256), repeated(top, 8), powerOfTwo(511), greatest(),
	}
}

// random returns a valid number of at most n digits, many of which are 0 or the greatest digit.
func random(r *rand.Rand, n int) api.Natural {
	a := make(api.Natural, r.Intn(n+1))
	for i := range a {
		switch r.Intn(4) {
		case 0:
			a[i] = 0
		case 1:
			a[i] = top
		default:
			a[i] = r.Uint32()
		}
	}
	if len(a) > 0 && a[len(a)-1] == 0 {
		a[len(a)-1] = 1
	}
	return a
}

// toBig returns the number of any digits, valid or not.
func toBig(a api.Natural) *big.Int {
	n := new(big.Int)
	for _, d := range slices.Backward(a) {
		n.Lsh(n, 32).Or(n, big.NewInt(int64(d)))
	}
	return n
}

// fromBig returns the digits of a number, valid unless it is too large.
func fromBig(n *big.Int) api.Natural {
	var a api.Natural
	for n = new(big.Int).Set(n); n.Sign() > 0; n.Rsh(n, 32) {
		a = append(a, uint32(n.Uint64()))
	}
	return a
}

// is fails unless a result is the wanted number, or ErrMany if that is too large.
func is(t *testing.T, got api.Natural, e api.Errno, want *big.Int, of ...any) {
	t.Helper()
	if want.BitLen() > 512 {
		fails(t, e, api.ErrMany, of...)
		if len(got) != 0 {
			t.Errorf("%v: a result %v with an error", of, got)
		}
		return
	}
	fails(t, e, api.OK, of...)
	if !slices.Equal(got, fromBig(want)) {
		t.Errorf("%v: %v, not %v", of, got, fromBig(want))
	}
}

// fails fails unless an error is the wanted one.
func fails(t *testing.T, e, want api.Errno, of ...any) {
	t.Helper()
	if e != want {
		t.Errorf("%v: %v, not %v", of, e, want)
	}
}

// fraction returns the valid fraction of two small numbers.
func fraction(t *testing.T, num, den uint64) api.Fraction {
	t.Helper()
	f, e := number.Ratio(number.Of(num), number.Of(den))
	fails(t, e, api.OK, num, den)
	return f
}

// sameFraction reports whether all digits of two fractions are the same.
func sameFraction(f, g api.Fraction) bool {
	return slices.Equal(f.Num, g.Num) && slices.Equal(f.Den, g.Den)
}

// isFraction fails unless a result is the wanted number, or ErrMany if a part of that is too large.
func isFraction(t *testing.T, got api.Fraction, e api.Errno, want *big.Rat, of ...any) {
	t.Helper()
	if want.Num().BitLen() > 512 || want.Denom().BitLen() > 512 {
		fails(t, e, api.ErrMany, of...)
		if len(got.Num) != 0 || len(got.Den) != 0 {
			t.Errorf("%v: a result %v with an error", of, got)
		}
		return
	}
	fails(t, e, api.OK, of...)
	if !sameFraction(got, api.Fraction{Num: fromBig(want.Num()), Den: fromBig(want.Denom())}) {
		t.Errorf("%v: %v, not %v", of, got, want)
	}
}
