package trace

import (
	"math/bits"
	"slices"

	"headend/api"
)

// The variants that are not those of a pair.
const (
	noVariant   = -1 // of a user who was named
	restVariant = 0
)

func leftVariant(pair int) int { return 2*pair + 1 }

func rightVariant(pair int) int { return 2*pair + 2 }

// pairOf returns the index of the pair that has a variant.
func pairOf(variant int) int { return (variant - 1) / 2 }

// NewHunt returns a hunt with all users in the rest.
func NewHunt(users int) (api.Hunt, api.Errno) {
	if !isWithin(users, 1, api.MaxUsers) {
		return api.Hunt{}, api.ErrArg
	}
	return api.Hunt{Users: users, Rest: everyone(users)}, api.OK
}

// everyone returns the list of all users.
func everyone(users int) []int {
	l := make([]int, users)
	for u := range l {
		l[u] = u
	}
	return l
}

// CheckHunt returns ErrBad unless a hunt is valid.
func CheckHunt(h api.Hunt) api.Errno {
	if !isWithin(h.Users, 1, api.MaxUsers) || !isWithin(h.Rounds, 0, api.MaxQueries) || !isDivided(h) {
		return api.ErrBad
	}
	return api.OK
}

// isDivided reports whether each user of a hunt is in exactly one list, and no pair has an empty side.
func isDivided(h api.Hunt) bool {
	lists := [][]int{h.Rest, h.Named}
	for _, p := range h.Pairs {
		if len(p.Left) == 0 || len(p.Right) == 0 {
			return false
		}
		lists = append(lists, p.Left, p.Right)
	}
	isOrdered := func(l []int) bool { return isList(l, h.Users) }
	return allOf(lists, isOrdered) && slices.Equal(inOrder(lists...), everyone(h.Users))
}

// Variants returns the variant of each user.
func Variants(h api.Hunt) ([]int, api.Errno) {
	if e := CheckHunt(h); e != api.OK {
		return nil, e
	}
	variants := make([]int, h.Users)
	give := func(users []int, variant int) {
		for _, u := range users {
			variants[u] = variant
		}
	}
	give(h.Rest, restVariant)
	give(h.Named, noVariant)
	for i, p := range h.Pairs {
		give(p.Left, leftVariant(i))
		give(p.Right, rightVariant(i))
	}
	return variants, api.OK
}

// isGiven reports whether a user of a hunt, which is valid, gets a variant.
func isGiven(h api.Hunt, variant int) bool {
	if variant == restVariant {
		return len(h.Rest) > 0
	}
	return isWithin(variant, 1, 2*len(h.Pairs))
}

// copyOf returns a hunt that shares no memory with a hunt.
func copyOf(h api.Hunt) api.Hunt {
	h.Pairs = slices.Clone(h.Pairs)
	for i, p := range h.Pairs {
		h.Pairs[i] = api.Pair{Left: slices.Clone(p.Left), Right: slices.Clone(p.Right)}
	}
	h.Rest, h.Named = slices.Clone(h.Rest), slices.Clone(h.Named)
	return h
}

// halves returns the halves of a list as a pair.
func halves(users []int) api.Pair {
	middle := (len(users) + 1) / 2
	return api.Pair{Left: slices.Clone(users[:middle]), Right: slices.Clone(users[middle:])}
}

// Hear returns the hunt after hearing a variant.
func Hear(h api.Hunt, variant int) (api.Hunt, api.Errno) {
	if e := CheckHunt(h); e != api.OK {
		return api.Hunt{}, e
	}
	if !isGiven(h, variant) {
		return api.Hunt{}, api.ErrVariant
	}
	if h.Rounds == api.MaxQueries {
		return api.Hunt{}, api.ErrFull
	}
	h = copyOf(h)
	h.Rounds++
	if variant == restVariant {
		heard := h.Rest
		h.Rest = nil
		return accuse(h, heard, len(h.Pairs), len(h.Pairs)), api.OK
	}
	i := pairOf(variant)
	heard, other := h.Pairs[i].Left, h.Pairs[i].Right
	if variant == rightVariant(i) {
		heard, other = other, heard
	}
	h.Rest = inOrder(h.Rest, other)
	return accuse(h, heard, i, i+1), api.OK
}

// accuse puts the halves of some users, among whom is a pirate, into the place of the pairs from one index up to another one; a single user is named instead.
func accuse(h api.Hunt, users []int, from, to int) api.Hunt {
	if len(users) == 1 {
		h.Named = inOrder(h.Named, users)
		h.Pairs = slices.Delete(h.Pairs, from, to)
	} else {
		h.Pairs = slices.Replace(h.Pairs, from, to, halves(users))
	}
	return h
}

// Rounds returns after how many rounds all pirates are named.
func Rounds(users, pirates int) (int, api.Errno) {
	if !isWithin(users, 1, api.MaxUsers) || !isWithin(pirates, 0, users) {
		return 0, api.ErrArg
	}
	halvings := bits.Len(uint(users - 1))
	return pirates * (1 + halvings), api.OK
}
