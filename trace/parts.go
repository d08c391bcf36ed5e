package trace

import (
	"slices"

	"headend/api"
	"headend/cipher"
	"headend/cover"
)

// CheckParts returns an error unless some subsets are a partition.
func CheckParts(s api.Scheme, l []api.Subset) api.Errno {
	if e := cover.Check(s); e != api.OK {
		return e
	}
	if len(l) > api.MaxItems {
		return api.ErrMany
	}
	lists := make([][]int, len(l))
	for i, x := range l {
		members, e := cover.Members(s, x)
		if e != api.OK {
			return e
		}
		lists[i] = members
	}
	all := inOrder(lists...)
	count := len(all)
	if len(slices.Compact(all)) < count {
		return api.ErrParts
	}
	return api.OK
}

// Hybrid returns the header of a query.
func Hybrid(root api.Key, s api.Scheme, l []api.Subset, fakes int, session api.Key) (api.Header, api.Errno) {
	if e := CheckParts(s, l); e != api.OK {
		return api.Header{}, e
	}
	if !isWithin(fakes, 0, len(l)) {
		return api.Header{}, api.ErrArg
	}
	// There is no error for the subsets of a partition.
	h, _ := cover.Seal(root, s, l, session)
	for i, x := range l[:fakes] {
		key, _ := cover.SubsetKey(root, s, x)
		h.Items[i].Box = cipher.Encrypt(key, cipher.Derive(session, api.TagFake, uint64(i)))
	}
	return h, api.OK
}
