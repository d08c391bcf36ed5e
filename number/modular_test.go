package number_test

import (
	"math"
	"math/big"
	"math/rand"
	"testing"

	"headend/api"
	"headend/number"
)

func TestPowMod(t *testing.T) { // P1.5
	for i, x := range []struct {
		b, n, m, want uint64
		e             api.Errno
	}{
		{3, 4, 7, 4, api.OK},
		{2, 0, 1, 0, api.OK},
		{0, 0, 1, 0, api.OK},
		{0, 0, 2, 1, api.OK},
		{0, 5, 2, 0, api.OK},
		{top - 1, 2, top, 1, api.OK},
		{2, 3, 0, 0, api.ErrArg},
		{2, 3, 1 << 32, 0, api.ErrArg},
		{0, 0, 0, 0, api.ErrArg},
		{2, 3, math.MaxUint64, 0, api.ErrArg},
	} {
		y, e := number.PowMod(x.b, x.n, x.m)
		fails(t, e, x.e, i)
		if y != x.want {
			t.Error(i, y)
		}
	}
}

// numbers64 returns numbers at the edges, and random ones.
func numbers64() []uint64 {
	r := rand.New(rand.NewSource(6))
	l := []uint64{0, 1, 2, 3, 10, top - 1, top, 1 << 32, 1<<32 + 1, 1 << 63, math.MaxUint64}
	for range 12 {
		l = append(l, r.Uint64(), uint64(r.Uint32()))
	}
	return l
}

func TestPowersAndInversesOfAnySize(t *testing.T) { // P1.5, R5
	for _, a := range numbers64() {
		for _, m := range numbers64() {
			if m == 0 || m > top {
				continue
			}
			x, y := new(big.Int).SetUint64(a), new(big.Int).SetUint64(m)
			for _, n := range numbers64() {
				p, e := number.PowMod(a, n, m)
				fails(t, e, api.OK, a, n, m)
				if want := new(big.Int).Exp(x, new(big.Int).SetUint64(n), y).Uint64(); p != want {
					t.Error(a, n, m, p, want)
				}
			}
			i, e := number.InvMod(a, m)
			if m == 1 {
				fails(t, e, api.OK, a, m)
			} else if want := new(big.Int).ModInverse(x, y); want == nil {
				fails(t, e, api.ErrZero, a, m)
			} else if fails(t, e, api.OK, a, m); i != want.Uint64() {
				t.Error(a, m, i, want)
			}
		}
	}
}

func TestInvMod(t *testing.T) { // P1.5, P1.10
	for i, x := range []struct {
		a, m, want uint64
		e          api.Errno
	}{
		{3, 7, 5, api.OK},
		{2, 4, 0, api.ErrZero},
		{0, 1, 0, api.OK},
		{5, 1, 0, api.OK},
		{math.MaxUint64, 1, 0, api.OK},
		{0, 2, 0, api.ErrZero},
		{0, top, 0, api.ErrZero},
		{top, top, 0, api.ErrZero},
		{top - 1, top, top - 1, api.OK},
		{0, 0, 0, api.ErrArg},
		{1, 0, 0, api.ErrArg},
		{1, 1 << 32, 0, api.ErrArg},
		{2, 1 << 32, 0, api.ErrArg},
		{1, math.MaxUint64, 0, api.ErrArg},
	} {
		y, e := number.InvMod(x.a, x.m)
		fails(t, e, x.e, i)
		if y != x.want {
			t.Error(i, y)
		}
	}
	for m := uint64(1); m < 120; m++ {
		for a := range 2*m + 1 {
			inverse, e := number.InvMod(a, m)
			want, has := searchInverse(a, m)
			if !has {
				fails(t, e, api.ErrZero, a, m)
			} else if fails(t, e, api.OK, a, m); inverse != want {
				t.Error(a, m, inverse)
			}
			if prime, _ := number.Prime(m); prime && a%m > 0 && e != api.OK {
				t.Error("no inverse", a, m)
			}
		}
	}
}

// searchInverse tries all numbers below m.
func searchInverse(a, m uint64) (uint64, bool) {
	for i := range m {
		if a*i%m == 1%m {
			return i, true
		}
	}
	return 0, false
}

func TestPowersMultiply(t *testing.T) { // P1.10
	r := rand.New(rand.NewSource(7))
	for range 3000 {
		b, m := r.Uint64(), uint64(r.Uint32())|1
		i, j := uint64(r.Uint32()), uint64(r.Uint32())
		x, _ := number.PowMod(b, i, m)
		y, _ := number.PowMod(b, j, m)
		if z, e := number.PowMod(b, i+j, m); e != api.OK || z != x*y%m {
			t.Error(b, i, j, m, z, e)
		}
	}
}

func TestPrime(t *testing.T) { // P1.6
	composite := make([]bool, api.MaxPrime+1)
	for n := 2; n <= api.MaxPrime; n++ {
		for i := 2 * n; i <= api.MaxPrime && !composite[n]; i += n {
			composite[i] = true
		}
	}
	for n, c := range composite {
		is, e := number.Prime(uint64(n))
		if e != api.OK || is != (n >= 2 && !c) {
			t.Fatal(n, is, e)
		}
	}
	for _, n := range []uint64{1 << 20, 1<<20 + 7, top, 1 << 32, 1<<32 + 15, math.MaxUint64} {
		is, e := number.Prime(n)
		fails(t, e, api.ErrMany, n)
		if is {
			t.Error(n)
		}
	}
}

func TestGroupExamples(t *testing.T) { // P1.6, the table of examples
	for _, g := range []api.Group{{P: 23, Q: 11, G: 2}, {P: 3, Q: 2, G: 2}, {P: 7, Q: 3, G: 2}, {P: 7, Q: 2, G: 6}, {P: 1048573, Q: 2, G: 1048572}} {
		fails(t, number.CheckGroup(g), api.OK, g)
	}
	const far = 1<<64 - 1
	for _, g := range []api.Group{
		{},
		{P: 23, Q: 11, G: 5},
		{P: 23, Q: 11, G: 1},
		{P: 23, Q: 11, G: 0},
		{P: 23, Q: 22, G: 5},
		{P: 23, Q: 1, G: 1},
		{P: 23, Q: 0, G: 2},
		{P: 23, Q: 7, G: 2},
		{P: 23, Q: 11, G: 23},
		{P: 23, Q: 11, G: 25},
		{P: 22, Q: 3, G: 2},
		{P: 2, Q: 2, G: 1},
		{P: 2, Q: 1, G: 1},
		{P: 1, Q: 2, G: 2},
		{P: 0, Q: 11, G: 2},
		{P: 341, Q: 2, G: 340},
		{P: 1 << 20, Q: 2, G: 1<<20 - 1},
		{P: 1<<20 + 7, Q: 2, G: 1<<20 + 6},
		{P: 23, Q: far, G: 2},
		{P: far, Q: 3, G: 2},
		{P: far, Q: far, G: far},
		{P: 23, Q: 11, G: far},
	} {
		fails(t, number.CheckGroup(g), api.ErrGroup, g)
	}
}

// elements returns the powers of G modulo P, from G^0 on until one is there twice.
func elements(g api.Group) map[uint64]bool {
	seen := map[uint64]bool{}
	for x := 1 % g.P; !seen[x]; x = x * g.G % g.P {
		seen[x] = true
	}
	return seen
}

func isPrime(n uint64) bool {
	for i := uint64(2); i < n; i++ {
		if n%i == 0 {
			return false
		}
	}
	return n >= 2
}

func TestGroups(t *testing.T) { // P1.6, P1.10
	for p := range uint64(48) {
		for q := range uint64(48) {
			for x := range uint64(50) {
				g := api.Group{P: p, Q: q, G: x}
				valid := isPrime(p) && isPrime(q) && (p-1)%q == 0 && x >= 2 && x < p && uint64(len(elements(g))) == q
				if e := number.CheckGroup(g); (e == api.OK) != valid {
					t.Error(g, e)
				}
				if valid {
					checkPowers(t, g)
				}
			}
		}
	}
}

// checkPowers checks that two powers are equal exactly if their exponents are equal modulo Q.
func checkPowers(t *testing.T, g api.Group) {
	t.Helper()
	for i := range 2 * g.Q {
		for j := range 2 * g.Q {
			x, _ := number.PowMod(g.G, i, g.P)
			y, _ := number.PowMod(g.G, j, g.P)
			if (x == y) != (i%g.Q == j%g.Q) {
				t.Error(g, i, j)
			}
		}
	}
}
