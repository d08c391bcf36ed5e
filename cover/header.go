package cover

import (
	"headend/api"
	"headend/cipher"
)

// checkOf returns what shows that a session key is the right one.
func checkOf(session api.Key) api.Key {
	return cipher.Derive(session, api.TagCheck, 0)
}

// Seal returns the header that carries a session key to some subsets.
func Seal(root api.Key, s api.Scheme, l []api.Subset, session api.Key) (api.Header, api.Errno) {
	if e := Check(s); e != api.OK {
		return api.Header{}, e
	}
	if len(l) > api.MaxItems {
		return api.Header{}, api.ErrMany
	}
	h := api.Header{Check: checkOf(session)}
	for _, x := range l {
		key, e := SubsetKey(root, s, x)
		if e != api.OK {
			return api.Header{}, e
		}
		h.Items = append(h.Items, api.Item{Subset: x, Box: cipher.Encrypt(key, session)})
	}
	return h, api.OK
}

// isHeader reports whether h is a header of a scheme that is valid.
func isHeader(s api.Scheme, h api.Header) bool {
	if len(h.Items) > api.MaxItems || h.Base != 0 || len(h.Points) != 0 || h.Box != (api.Key{}) {
		return false
	}
	for _, item := range h.Items {
		if !isSubset(s, item.Subset) {
			return false
		}
	}
	return true
}

// Open returns the session key of a header.
func Open(s api.Scheme, c api.Secret, h api.Header) (api.Key, api.Errno) {
	if e := Check(s); e != api.OK {
		return api.Key{}, e
	}
	if !isHeader(s, h) {
		return api.Key{}, api.ErrBad
	}
	for _, item := range h.Items {
		key, e := Find(s, c, item.Subset)
		if e != api.OK {
			continue
		}
		if session := cipher.Decrypt(key, item.Box); checkOf(session) == h.Check {
			return session, api.OK
		}
	}
	return api.Key{}, api.ErrNone
}
