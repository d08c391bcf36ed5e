package poly_test

import (
	"encoding/hex"
	"math"
	"math/big"
	"math/rand"
	"slices"
	"testing"

	"headend/api"
	"headend/cipher"
	"headend/poly"
)

func scheme(depth, degree int, g api.Group) api.Scheme {
	return api.Scheme{Kind: api.SchemePolynomial, Depth: depth, Degree: degree, Group: g}
}

// example is the scheme of the chapter's examples.
func example() api.Scheme { return scheme(2, 2, api.Group{P: 23, Q: 11, G: 2}) }

// groups returns small groups, the largest one, and one that is small among many numbers.
func groups() []api.Group {
	return []api.Group{
		{P: 7, Q: 3, G: 2},
		{P: 11, Q: 5, G: 3},
		{P: 23, Q: 11, G: 2},
		{P: 23, Q: 11, G: 18},
		{P: 43, Q: 7, G: 4},
		{P: 47, Q: 23, G: 2},
		{P: 269, Q: 67, G: 16},
		{P: 1048573, Q: 73, G: 119273},
		{P: 1048343, Q: 524171, G: 1048338},
	}
}

// schemes returns all schemes with one of the groups that are valid.
func schemes() []api.Scheme {
	var l []api.Scheme
	for _, g := range groups() {
		for depth := range api.MaxDepth + 1 {
			for degree := 1; degree <= api.MaxDegree; degree++ {
				if 1<<depth+degree < int(g.Q) {
					l = append(l, scheme(depth, degree, g))
				}
			}
		}
	}
	return l
}

// wrongSchemes returns schemes that are not valid.
func wrongSchemes() []api.Scheme {
	small, large := api.Group{P: 23, Q: 11, G: 2}, api.Group{P: 1048343, Q: 524171, G: 1048338}
	l := []api.Scheme{
		{},
		{Kind: 3, Depth: 3},
		{Kind: 4, Depth: 3},
		{Kind: 0, Depth: 2, Degree: 2, Group: small},
		{Kind: 1, Depth: 2, Degree: 2, Group: small},
		{Kind: 3, Depth: 2, Degree: 2, Group: small},
		{Kind: 5, Depth: 2, Degree: 2, Group: small},
		{Kind: 255, Depth: 2, Degree: 2, Group: small},
		// Q is not greater than 2^Depth + Degree.
		scheme(4, 2, small),
		scheme(2, 7, small),
		scheme(3, 3, small),
		scheme(1, 1, api.Group{P: 7, Q: 3, G: 2}),
		scheme(0, 2, api.Group{P: 7, Q: 3, G: 2}),
		scheme(0, 1, api.Group{P: 3, Q: 2, G: 2}),
		scheme(6, 3, api.Group{P: 269, Q: 67, G: 16}),
		// Groups that are not valid.
		scheme(2, 2, api.Group{P: 23, Q: 11, G: 5}),
		scheme(2, 2, api.Group{P: 23, Q: 11, G: 1}),
		scheme(2, 2, api.Group{P: 23, Q: 11, G: 25}),
		scheme(2, 2, api.Group{P: 23, Q: 22, G: 5}),
		scheme(2, 2, api.Group{P: 22, Q: 11, G: 2}),
		scheme(2, 2, api.Group{Q: 11}),
		scheme(2, 2, api.Group{P: math.MaxUint64, Q: math.MaxUint64, G: math.MaxUint64}),
		scheme(2, 2, api.Group{P: 23, Q: math.MaxUint64, G: 2}),
		scheme(2, 2, api.Group{P: 1<<20 + 7, Q: 2, G: 1<<20 + 6}),
	}
	for _, depth := range []int{-1, -2, 7, 8, 63, 64, 65, 1 << 32, math.MaxInt, math.MinInt} {
		l = append(l, scheme(depth, 2, small), scheme(depth, 2, large), scheme(depth, -depth, large))
	}
	for _, degree := range []int{0, -1, -8, 9, 10, 1 << 32, math.MaxInt, math.MaxInt - 1, math.MinInt} {
		l = append(l, scheme(0, degree, small), scheme(2, degree, large), scheme(6, degree, large))
	}
	return l
}

// wild returns numbers that are no receivers of any tree.
func wild() []int {
	return []int{
		-1, -2, -64, math.MinInt, math.MinInt + 1, math.MinInt32, -1 << 33,
		64, 65, 128, 255, math.MaxInt, math.MaxInt - 1, math.MaxInt32, 1 << 32, 1<<32 + 1, 1 << 62,
	}
}

// wildNumbers returns numbers that are greater than those of any group.
func wildNumbers() []uint64 {
	return []uint64{1 << 20, 1 << 32, 1<<32 + 1, 1 << 40, 1 << 63, math.MaxUint64 - 1, math.MaxUint64}
}

func block(t *testing.T, s string) api.Key {
	t.Helper()
	b, err := hex.DecodeString(s)
	if err != nil || len(b) != 16 {
		t.Fatal("no block:", s)
	}
	return api.Key(b)
}

func random(r *rand.Rand) api.Key {
	var k api.Key
	r.Read(k[:])
	return k
}

// edgeKeys returns keys of zeros, of ones, and others.
func edgeKeys() []api.Key {
	var ones, down api.Key
	for i := range ones {
		ones[i], down[i] = 255, byte(15-i)
	}
	return []api.Key{{}, ones, down, {15: 1}, {0: 128}}
}

// rootKey is the root key of the fixed values.
func rootKey(t *testing.T) api.Key { return block(t, "ffeeddccbbaa99887766554433221100") }

// someReceivers returns a list of at most n receivers of a tree.
func someReceivers(r *rand.Rand, depth, n int) []int {
	l := r.Perm(1 << depth)
	l = l[:min(len(l), n)]
	slices.Sort(l)
	return l
}

// sublists returns all lists of at most n receivers of a tree.
func sublists(depth, n int) [][]int {
	var ls [][]int
	for set := range 1 << (1 << depth) {
		var l []int
		for u := range 1 << depth {
			if set>>u&1 == 1 {
				l = append(l, u)
			}
		}
		if len(l) <= n {
			ls = append(ls, l)
		}
	}
	return ls
}

// wrongLists returns values that are no lists of receivers.
func wrongLists(depth int) [][]int {
	last := 1<<depth - 1
	ls := [][]int{{last + 1}, {-1}, {0, 0}, {last, last}, {0, last + 1}, {-1, 0}, {last, 0, last}, slices.Repeat([]int{last}, 100)}
	if last > 1 {
		ls = append(ls, []int{1, 0}, []int{0, last, last - 1})
	}
	for _, far := range wild() {
		ls = append(ls, []int{far}, []int{0, far}, []int{far, 0})
	}
	return ls
}

func isSameHeader(a, b api.Header) bool {
	return slices.Equal(a.Items, b.Items) && slices.Equal(a.Points, b.Points) &&
		a.Base == b.Base && a.Box == b.Box && a.Check == b.Check
}

func isSameSecret(a, b api.Secret) bool {
	return a.Receiver == b.Receiver && slices.Equal(a.Labels, b.Labels) && a.Share == b.Share
}

// must returns the result of a call that has no error.
func must[T any](t *testing.T) func(result T, e api.Errno) T {
	t.Helper()
	return func(result T, e api.Errno) T {
		t.Helper()
		if e != api.OK {
			t.Fatal("unexpected error:", e)
		}
		return result
	}
}

// The functions below follow the chapter's terms, with numbers of any size.

func large(n uint64) *big.Int { return new(big.Int).SetUint64(n) }

func power(b, n, m uint64) uint64 { return new(big.Int).Exp(large(b), large(n), large(m)).Uint64() }

// valueOf returns the sum of all coefficients times the powers of x.
func valueOf(coefficients []uint64, x, q uint64) uint64 {
	sum := new(big.Int)
	for i, c := range coefficients {
		sum.Add(sum, new(big.Int).Mul(large(c), new(big.Int).Exp(large(x), big.NewInt(int64(i)), nil)))
	}
	return sum.Mod(sum, large(q)).Uint64()
}

func secretCoefficients(root api.Key, s api.Scheme) []uint64 {
	k := cipher.Derive(root, 40, 0)
	var l []uint64
	for i := 0; i <= s.Degree; i++ {
		l = append(l, cipher.Number(k, uint64(i), s.Group.Q))
	}
	return l
}

func maskKey(z uint64) api.Key { return cipher.Derive(api.Key{}, 42, z) }

// sealed follows the description of Seal.
func sealed(root api.Key, s api.Scheme, revoked []int, session api.Key, nonce uint64) api.Header {
	f := secretCoefficients(root, s)
	r := 1 + cipher.Number(cipher.Derive(root, 41, nonce), 0, s.Group.Q-1)
	h := api.Header{Base: power(s.Group.G, r, s.Group.P)}
	inExponent := func(x uint64) uint64 { return power(h.Base, valueOf(f, x, s.Group.Q), s.Group.P) }
	for i := range s.Degree {
		x := uint64(1<<s.Depth + 1 + i - len(revoked))
		if i < len(revoked) {
			x = uint64(revoked[i] + 1)
		}
		h.Points = append(h.Points, api.Point{X: x, Y: inExponent(x)})
	}
	h.Box = cipher.Encrypt(maskKey(inExponent(0)), session)
	h.Check = cipher.Derive(session, 53, 0)
	return h
}

// maskOf follows the description of z.
func maskOf(s api.Scheme, share api.Point, base uint64, points []api.Point) uint64 {
	q := large(s.Group.Q)
	all := append([]api.Point{{X: share.X, Y: power(base, share.Y, s.Group.P)}}, points...)
	z := big.NewInt(1)
	for j, p := range all {
		l := big.NewInt(1)
		for i, other := range all {
			if i == j {
				continue
			}
			distance := new(big.Int).Sub(large(other.X), large(p.X))
			l.Mul(l, large(other.X))
			l.Mul(l, distance.ModInverse(distance.Mod(distance, q), q))
			l.Mod(l, q)
		}
		z.Mul(z, large(power(p.Y, l.Uint64(), s.Group.P)))
	}
	return z.Mod(z, large(s.Group.P)).Uint64()
}

func secretOf(t *testing.T, root api.Key, s api.Scheme, u int) api.Secret {
	t.Helper()
	return must[api.Secret](t)(poly.Secret(root, s, u))
}
