package poly

import (
	"slices"

	"headend/api"
	"headend/cipher"
)

// maskKey returns the key under which a session key is encrypted in a header whose mask is z.
func maskKey(z uint64) api.Key { return cipher.Derive(api.Key{}, api.TagMask, z) }

// checkOf returns what shows that a session key is the right one.
func checkOf(session api.Key) api.Key { return cipher.Derive(session, api.TagCheck, 0) }

// baseOf returns the base of the header with a nonce. It is not 1, so that its powers are all elements of the group.
func baseOf(root api.Key, s api.Scheme, nonce uint64) uint64 {
	k := cipher.Derive(root, api.TagNonce, nonce)
	exponent := 1 + cipher.Number(k, 0, s.Group.Q-1)
	return modulus(s.Group.P).power(s.Group.G, exponent)
}

// pointsX returns the X of a header's points: those of the revoked receivers, and then of none.
func pointsX(s api.Scheme, revoked []int) []uint64 {
	var l []uint64
	for _, u := range revoked {
		l = append(l, shareX(u))
	}
	for x := shareX(1 << s.Depth); len(l) < s.Degree; x++ {
		l = append(l, x)
	}
	return l
}

// Seal returns the header that carries a session key to all receivers but the revoked ones.
func Seal(root api.Key, s api.Scheme, revoked []int, session api.Key, nonce uint64) (api.Header, api.Errno) {
	if e := Check(s); e != api.OK {
		return api.Header{}, e
	}
	if !isList(s, revoked) {
		return api.Header{}, api.ErrArg
	}
	if len(revoked) > s.Degree {
		return api.Header{}, api.ErrMany
	}
	f, p := secretPolynomial(root, s), modulus(s.Group.P)
	h := api.Header{Base: baseOf(root, s, nonce), Check: checkOf(session)}
	for _, x := range pointsX(s, revoked) {
		h.Points = append(h.Points, api.Point{X: x, Y: p.power(h.Base, f.at(x))})
	}
	h.Box = cipher.Encrypt(maskKey(p.power(h.Base, f.at(0))), session)
	return h, api.OK
}

// isHeader reports whether h is a header of a scheme.
func isHeader(s api.Scheme, h api.Header) bool {
	if len(h.Items) != 0 || h.Base < 1 || h.Base >= s.Group.P || len(h.Points) != s.Degree {
		return false
	}
	return areRight(h.Points, api.Point{X: 1, Y: 1}, api.Point{X: s.Group.Q - 1, Y: s.Group.P - 1})
}

// isShare reports whether Open takes a point as a share.
func isShare(s api.Scheme, p api.Point) bool {
	most := s.Group.Q - 1
	return areRight([]api.Point{p}, api.Point{X: 1}, api.Point{X: most, Y: most})
}

// Open returns the session key of a header.
func Open(s api.Scheme, c api.Secret, h api.Header) (api.Key, api.Errno) {
	if e := Check(s); e != api.OK {
		return api.Key{}, e
	}
	if !isHeader(s, h) || !isShare(s, c.Share) {
		return api.Key{}, api.ErrBad
	}
	if slices.ContainsFunc(h.Points, func(p api.Point) bool { return p.X == c.Share.X }) {
		return api.Key{}, api.ErrNone
	}
	session := cipher.Decrypt(maskKey(mask(s, c.Share, h)), h.Box)
	if checkOf(session) != h.Check {
		return api.Key{}, api.ErrNone
	}
	return session, api.OK
}

// mask returns the mask of a header. It interpolates at 0 in the exponents of the base, which are not known.
func mask(s api.Scheme, share api.Point, h api.Header) uint64 {
	p, q := modulus(s.Group.P), modulus(s.Group.Q)
	own := api.Point{X: share.X, Y: p.power(h.Base, share.Y)}
	points := slices.Concat([]api.Point{own}, h.Points)
	var powers []uint64
	for j, point := range points {
		powers = append(powers, p.power(point.Y, q.weight(points, j)))
	}
	return p.product(powers...)
}
