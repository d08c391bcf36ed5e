package code

import (
	"headend/api"
	"headend/cipher"
)

// CheckSteps returns ErrCode unless a code of steps is valid.
func CheckSteps(c api.Steps) api.Errno {
	if !isWithin(c.Users, 2, api.MaxSteps) || !isWithin(c.Block, 1, api.MaxBlock) || !isLimit(c.Limit) {
		return api.ErrCode
	}
	return api.OK
}

// columns returns how many columns a code has.
func columns(c api.Steps) int { return (c.Users - 1) * c.Block }

// arrangement returns the place of each column.
func arrangement(c api.Steps) []int {
	key := cipher.Derive(c.Key, api.TagCode, 0)
	places := make([]int, columns(c))
	for i := range places {
		places[i] = i
	}
	for i := len(places) - 1; i >= 1; i-- {
		j := cipher.Number(key, uint64(i), uint64(i+1))
		places[i], places[j] = places[j], places[i]
	}
	return places
}

// StepWord returns the word of a user of a code of steps.
func StepWord(c api.Steps, u int) ([]uint8, api.Errno) {
	if e := CheckSteps(c); e != api.OK {
		return nil, e
	}
	if !isWithin(u, 0, c.Users-1) {
		return nil, api.ErrArg
	}
	return stepWord(c, u), api.OK
}

func stepWord(c api.Steps, u int) []uint8 {
	w := make([]uint8, columns(c))
	for column, place := range arrangement(c) {
		if u <= column/c.Block {
			w[place] = 1
		}
	}
	return w
}

// checkCopy returns ErrWord unless y is a copy of a word of a code, which is valid.
func checkCopy(c api.Steps, y []uint8) api.Errno {
	if e := CheckSteps(c); e != api.OK {
		return e
	}
	if !isCopy(y, columns(c)) {
		return api.ErrWord
	}
	return api.OK
}

// Weights returns the weights of a copy.
func Weights(c api.Steps, y []uint8) ([]int, api.Errno) {
	if e := checkCopy(c, y); e != api.OK {
		return nil, e
	}
	return weights(c, y), api.OK
}

func weights(c api.Steps, y []uint8) []int {
	l := make([]int, c.Users-1)
	for column, place := range arrangement(c) {
		if y[place] == 1 {
			l[column/c.Block]++
		}
	}
	return l
}

// Threshold returns the threshold for k marked places.
func Threshold(c api.Steps, k int) (int, api.Errno) {
	if e := CheckSteps(c); e != api.OK {
		return 0, e
	}
	if !isWithin(k, 0, 2*c.Block) {
		return 0, api.ErrArg
	}
	return threshold(c.Block, k, c.Limit), api.OK
}

// Complete reports whether a code of steps names a user for all weights.
func Complete(c api.Steps) (bool, api.Errno) {
	if e := CheckSteps(c); e != api.OK {
		return false, e
	}
	thresholds := make([]int, 2*c.Block+1)
	for k := range thresholds {
		thresholds[k] = threshold(c.Block, k, c.Limit)
	}
	// The weights that a block may have when no user up to it is named: the first block has 0.
	silent := make([]bool, c.Block+1)
	silent[0] = true
	for range c.Users - 2 {
		silent = silentAfter(silent, thresholds)
	}
	return !silent[c.Block], api.OK
}

// silentAfter returns which weights the next block may have when no user up to it is named.
func silentAfter(silent []bool, thresholds []int) []bool {
	next := make([]bool, len(silent))
	for low, is := range silent {
		for high := range next {
			next[high] = next[high] || is && low > thresholds[low+high]
		}
	}
	return next
}

// weighed is a code of steps with the weights of a copy.
type weighed struct {
	code    api.Steps
	weights []int
}

// names reports whether a user is named.
func (x weighed) names(u int) bool {
	switch u {
	case 0:
		return x.weights[0] > 0
	case x.code.Users - 1:
		return x.weights[u-1] < x.code.Block
	}
	low, high := x.weights[u-1], x.weights[u]
	return low <= threshold(x.code.Block, low+high, x.code.Limit)
}

// TraceSteps returns the users that a code of steps names for a copy.
func TraceSteps(c api.Steps, y []uint8) ([]int, api.Errno) {
	if e := checkCopy(c, y); e != api.OK {
		return nil, e
	}
	return traceSteps(c, y), api.OK
}

func traceSteps(c api.Steps, y []uint8) []int {
	return named(c.Users, weighed{c, weights(c, y)}.names)
}
