// Package code is layer 7: fingerprints, and the tracing of copies; see shared/doc/07-code.md.
package code

import (
	"slices"

	"headend/api"
)

// unreadable is the symbol of a place of a copy that shows neither 0 nor 1.
const unreadable = 2

func isWithin(n, low, high int) bool { return n >= low && n <= high }

func isWord(w []uint8, places int) bool { return isList(w, places, 1) }

func isCopy(y []uint8, places int) bool { return isList(y, places, unreadable) }

// isList reports whether a list has so many symbols, none of them above the last one.
func isList(l []uint8, places int, last uint8) bool {
	return len(l) == places && !slices.ContainsFunc(l, func(s uint8) bool { return s > last })
}

// counts is how many words have the symbol 0 in a place, and how many have 1.
type counts [2]int

func countsAt(words [][]uint8, place int) counts {
	var n counts
	for _, w := range words {
		n[w[place]]++
	}
	return n
}

// allow reports whether a copy of words with these symbols may have a symbol.
func (n counts) allow(s uint8) bool {
	for same := range uint8(2) {
		var all counts
		all[same] = n[0] + n[1]
		if n == all && s != same {
			return false
		}
	}
	return true
}

// Feasible reports whether a copy is feasible for some words.
func Feasible(words [][]uint8, y []uint8) (bool, api.Errno) {
	if !areWords(words) {
		return false, api.ErrArg
	}
	if !isCopy(y, len(words[0])) {
		return false, api.ErrWord
	}
	for i, s := range y {
		if !countsAt(words, i).allow(s) {
			return false, api.OK
		}
	}
	return true, api.OK
}

// areWords reports whether there are some words, not too many, of one length that is not too large.
func areWords(words [][]uint8) bool {
	if !isWithin(len(words), 1, api.MaxUsers) || len(words[0]) > api.MaxLength {
		return false
	}
	return !slices.ContainsFunc(words, func(w []uint8) bool { return !isWord(w, len(words[0])) })
}

// named returns the users who are named, in ascending order.
func named(users int, isNamed func(u int) bool) []int {
	var l []int
	for u := range users {
		if isNamed(u) {
			l = append(l, u)
		}
	}
	return l
}
