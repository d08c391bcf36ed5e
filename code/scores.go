package code

import (
	"maps"
	"slices"

	"headend/api"
	"headend/cipher"
)

// CheckScores returns ErrCode unless a code of scores is valid.
func CheckScores(c api.Scores) api.Errno {
	if !isWithin(c.Users, 1, api.MaxUsers) || !isWithin(c.Base, 2, api.MaxBase) || !isWithin(len(c.Biases), 1, api.MaxPlaces) {
		return api.ErrCode
	}
	if slices.ContainsFunc(c.Biases, func(a int) bool { return !isWithin(a, 1, c.Base-1) }) {
		return api.ErrCode
	}
	return api.OK
}

// ScoreWord returns the word of a user of a code of scores.
func ScoreWord(c api.Scores, u int) ([]uint8, api.Errno) {
	if e := CheckScores(c); e != api.OK {
		return nil, e
	}
	if !isWithin(u, 0, c.Users-1) {
		return nil, api.ErrArg
	}
	return scoreWord(c, u), api.OK
}

func scoreWord(c api.Scores, u int) []uint8 {
	key := cipher.Derive(c.Key, api.TagCode, uint64(u))
	w := make([]uint8, len(c.Biases))
	for i, bias := range c.Biases {
		if cipher.Number(key, uint64(i), uint64(c.Base)) < uint64(bias) {
			w[i] = 1
		}
	}
	return w
}

// Score returns the score of a word for a copy.
func Score(c api.Scores, w, y []uint8) (int, api.Errno) {
	if e := CheckScores(c); e != api.OK {
		return 0, e
	}
	if !isWord(w, len(c.Biases)) || !isCopy(y, len(c.Biases)) {
		return 0, api.ErrWord
	}
	return copied{c, y}.score(w), api.OK
}

// copied is a code of scores with a copy.
type copied struct {
	code api.Scores
	y    []uint8
}

// points returns what a word with a symbol in a place has there.
func (x copied) points(place int, symbol uint8) int {
	n := int(symbol)*x.code.Base - x.code.Biases[place]
	switch x.y[place] {
	case unreadable:
		return 0
	case 0:
		return -n
	}
	return n
}

func (x copied) score(w []uint8) int {
	n := 0
	for i, symbol := range w {
		n += x.points(i, symbol)
	}
	return n
}

// odds is how many cases have each score, and how many there are at all.
type odds struct {
	cases map[int]api.Natural
	all   api.Natural
}

// odds returns the odds of a random word: of as many cases as Base in each place, Biases of them have a 1 there.
func (x copied) odds() odds {
	o := odds{map[int]api.Natural{0: natural(1)}, natural(1)}
	for i, bias := range x.code.Biases {
		longer := map[int]api.Natural{}
		for score, n := range o.cases {
			for symbol, times := range [2]int{x.code.Base - bias, bias} {
				next := score + x.points(i, uint8(symbol))
				longer[next] = sum(longer[next], product(n, natural(times)))
			}
		}
		o = odds{longer, product(o.all, natural(x.code.Base))}
	}
	return o
}

// chance returns the chance of a number.
func (o odds) chance(z int) chance {
	cases := natural(0)
	for score, n := range o.cases {
		if score >= z {
			cases = sum(cases, n)
		}
	}
	return chance{cases, o.all}
}

// bound returns the bound for a limit: it follows the greatest score whose chance is above the limit, because from one score to the next the chance stays the same.
func (o odds) bound(limit api.Fraction) int {
	bound := 0
	for _, score := range slices.Sorted(maps.Keys(o.cases)) {
		if !o.chance(score).isAtMost(limit) {
			bound = score + 1
		}
	}
	return bound
}

// checkCopied returns ErrWord unless y is a copy of a word of a code, which is valid.
func checkCopied(c api.Scores, y []uint8) api.Errno {
	if e := CheckScores(c); e != api.OK {
		return e
	}
	if !isCopy(y, len(c.Biases)) {
		return api.ErrWord
	}
	return api.OK
}

// Chance returns the chance that the score of a random word is z or more.
func Chance(c api.Scores, y []uint8, z int) (api.Fraction, api.Errno) {
	if e := checkCopied(c, y); e != api.OK {
		return api.Fraction{}, e
	}
	return copied{c, y}.odds().chance(z).fraction(), api.OK
}

// Bound returns the least number whose chance is at most a limit.
func Bound(c api.Scores, y []uint8, limit api.Fraction) (int, api.Errno) {
	if e := checkCopied(c, y); e != api.OK {
		return 0, e
	}
	if !isLimit(limit) {
		return 0, api.ErrArg
	}
	return copied{c, y}.odds().bound(limit), api.OK
}

// suspects is the users of a code, with a copy and the bound.
type suspects struct {
	copied
	bound int
}

// reach reports whether the score of a user's word reaches the bound.
func (x suspects) reach(u int) bool { return x.score(scoreWord(x.code, u)) >= x.bound }

// TraceScores returns the users whose scores reach the bound.
func TraceScores(c api.Scores, y []uint8, limit api.Fraction) ([]int, api.Errno) {
	bound, e := Bound(c, y, limit)
	if e != api.OK {
		return nil, e
	}
	return named(c.Users, suspects{copied{c, y}, bound}.reach), api.OK
}
