package epoch

import (
	"headend/api"
	"headend/cipher"
	"headend/cover"
	"headend/poly"
)

// Session returns the session key of an epoch.
func Session(root api.Key, epoch int) api.Key {
	return cipher.Derive(root, api.TagSession, uint64(epoch))
}

// Word returns the control word of a period.
func Word(session api.Key, period int) api.Key {
	return cipher.Derive(session, api.TagWord, uint64(period))
}

// family is what the schemes of some kinds have in common.
type family struct {
	check  func(s api.Scheme) api.Errno
	secret func(root api.Key, s api.Scheme, receiver int) (api.Secret, api.Errno)
	seal   func(root api.Key, s api.Scheme, revoked []int, session api.Key, nonce uint64) (api.Header, api.Errno)
	open   func(s api.Scheme, c api.Secret, h api.Header) (api.Key, api.Errno)
}

// familyOf returns the family of a kind. That of no kind has nothing but a check, which fails.
func familyOf(kind uint8) family {
	tree := family{cover.Check, cover.Secret, sealForCover, cover.Open}
	families := [...]family{
		0:                    {check: func(api.Scheme) api.Errno { return api.ErrArg }},
		api.SchemeSubtree:    tree,
		api.SchemeDifference: tree,
		api.SchemeLayered:    tree,
		api.SchemePolynomial: {poly.Check, poly.Secret, poly.Seal, poly.Open},
	}
	if int(kind) >= len(families) {
		return families[0]
	}
	return families[kind]
}

// sealForCover seals a session key for the cover of some revoked receivers, which needs no nonce.
func sealForCover(root api.Key, s api.Scheme, revoked []int, session api.Key, _ uint64) (api.Header, api.Errno) {
	l, e := cover.Cover(s, revoked)
	if e != api.OK {
		return api.Header{}, e
	}
	return cover.Seal(root, s, l, session)
}

// CheckScheme returns an error unless a scheme is valid.
func CheckScheme(s api.Scheme) api.Errno { return familyOf(s.Kind).check(s) }

// Secret returns the secret of a receiver.
func Secret(root api.Key, s api.Scheme, receiver int) (api.Secret, api.Errno) {
	if e := CheckScheme(s); e != api.OK {
		return api.Secret{}, e
	}
	return familyOf(s.Kind).secret(root, s, receiver)
}

// Seal returns the header in which the session key of an epoch is sealed.
func Seal(root api.Key, s api.Scheme, epoch int, revoked []int) (api.Header, api.Errno) {
	if e := CheckScheme(s); e != api.OK {
		return api.Header{}, e
	}
	if !isEpoch(epoch) {
		return api.Header{}, api.ErrArg
	}
	return familyOf(s.Kind).seal(root, s, revoked, Session(root, epoch), uint64(epoch))
}

// Open returns the key that a header has for a secret.
func Open(s api.Scheme, c api.Secret, h api.Header) (api.Key, api.Errno) {
	if e := CheckScheme(s); e != api.OK {
		return api.Key{}, e
	}
	return familyOf(s.Kind).open(s, c, h)
}
