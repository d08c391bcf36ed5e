package trace

import (
	"slices"

	"headend/api"
	"headend/cipher"
	"headend/cover"
)

// The numbers with which BoxOdd decides are apart from those of the noise.
const (
	oddFirst = 1 << 32
	oddRow   = 64
)

// CheckBox returns cover.Check's error, and ErrBad unless a box is valid.
func CheckBox(b api.Box) api.Errno {
	if e := cover.Check(b.Scheme); e != api.OK {
		return e
	}
	_, hasMode := modes()[b.Mode]
	isLimited := isWithin(b.Noise, 0, api.MaxLimit) && isWithin(b.Lives, 0, api.MaxLimit)
	isCounted := isWithin(b.Asked, 0, api.MaxQueries) && isWithin(b.Mixed, 0, b.Asked)
	if !isList(b.Coalition, 1<<b.Scheme.Depth) || !hasMode || !isLimited || !isCounted {
		return api.ErrBad
	}
	return api.OK
}

// query is a query as a box sees it: which items are open to it, and how many of the first ones are wrong.
type query struct {
	open  []bool
	fakes int
}

// openItems returns which items of a query with some subsets are open to a box, which is valid.
func openItems(b api.Box, l []api.Subset) ([]bool, api.Errno) {
	if len(l) > api.MaxItems {
		return nil, api.ErrMany
	}
	open := make([]bool, len(l))
	for i, x := range l {
		knows, e := cover.Knows(b.Scheme, b.Coalition, x)
		if e != api.OK {
			return nil, e
		}
		open[i] = knows
	}
	return open, api.OK
}

func countOpen(open []bool) int {
	n := 0
	for _, is := range open {
		if is {
			n++
		}
	}
	return n
}

func (q query) wrong() int { return countOpen(q.open[:q.fakes]) }

func (q query) right() int { return countOpen(q.open[q.fakes:]) }

// modes returns what each mode makes of a query with right and wrong open items.
func modes() map[uint8]func(seed api.Key, q query) bool {
	return map[uint8]func(seed api.Key, q query) bool{
		api.BoxFirst: func(_ api.Key, q query) bool { return slices.Index(q.open, true) >= q.fakes },
		api.BoxAll:   func(api.Key, query) bool { return false },
		api.BoxAny:   func(api.Key, query) bool { return true },
		api.BoxOdd: func(seed api.Key, q query) bool {
			return cipher.Number(seed, oddFirst+oddRow*uint64(q.wrong())+uint64(q.right()), 2) == 1
		},
	}
}

func isDead(b api.Box) bool { return b.Lives > 0 && b.Mixed > b.Lives }

// isNoise reports whether a box plays no query with a number, whatever the query.
func isNoise(b api.Box, n int) bool {
	span := uint64(b.Noise + 1)
	return cipher.Number(b.Seed, uint64(n)/span, span) != uint64(n)%span
}

// player returns a function that reports whether a box, which is valid, plays a query, and keeps in the box what the query changes.
func player(b *api.Box) func(q query) bool {
	playsMixed := modes()[b.Mode]
	return func(q query) bool {
		n := b.Asked
		b.Asked++
		hasRight, hasWrong := q.right() > 0, q.wrong() > 0
		if hasRight && hasWrong {
			b.Mixed++
		}
		if !hasRight || isDead(*b) || isNoise(*b, n) {
			return false
		}
		return !hasWrong || playsMixed(b.Seed, q)
	}
}

// Ask returns the box after a query, and whether it plays.
func Ask(b api.Box, l []api.Subset, fakes int) (api.Box, bool, api.Errno) {
	if e := CheckBox(b); e != api.OK {
		return api.Box{}, false, e
	}
	open, e := openItems(b, l)
	if e != api.OK {
		return api.Box{}, false, e
	}
	if !isWithin(fakes, 0, len(l)) {
		return api.Box{}, false, api.ErrArg
	}
	if b.Asked == api.MaxQueries {
		return api.Box{}, false, api.ErrFull
	}
	b.Coalition = slices.Clone(b.Coalition)
	plays := player(&b)(query{open, fakes})
	return b, plays, api.OK
}
