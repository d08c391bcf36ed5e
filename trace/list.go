package trace

import (
	"cmp"
	"slices"
)

func isWithin(n, low, high int) bool { return n >= low && n <= high }

// isList reports whether some numbers are below a count, and in increasing order without any number twice.
func isList(l []int, count int) bool {
	last := -1
	for _, n := range l {
		if n <= last || n >= count {
			return false
		}
		last = n
	}
	return true
}

// inOrder returns one new list with all that is in some lists, in increasing order.
func inOrder[T cmp.Ordered](lists ...[]T) []T {
	l := slices.Concat(lists...)
	slices.Sort(l)
	return l
}

// allOf reports whether all elements of a list are as asked.
func allOf[T any](l []T, isRight func(T) bool) bool {
	return !slices.ContainsFunc(l, func(x T) bool { return !isRight(x) })
}
