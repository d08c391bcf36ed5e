package code_test

import (
	"math"
	"math/rand"
	"reflect"
	"slices"
	"testing"

	"headend/api"
	"headend/code"
)

// arguments are all that the calls take.
type arguments struct {
	words         [][]uint8
	y             []uint8
	steps         api.Steps
	stepCopy      []uint8
	d, k, x, u    int
	scores        api.Scores
	word          []uint8
	scoreCopy     []uint8
	z             int
	limit         api.Fraction
	levels        api.Levels
	levelCopy     []uint8
	group, member int
}

type call = func(a arguments) (any, api.Errno)

// calls returns all calls, each with its result and its error.
func calls() map[string]call {
	return map[string]call{
		"Feasible":    func(a arguments) (any, api.Errno) { return pair(code.Feasible(a.words, a.y)) },
		"CheckSteps":  func(a arguments) (any, api.Errno) { return 0, code.CheckSteps(a.steps) },
		"StepWord":    func(a arguments) (any, api.Errno) { return pair(code.StepWord(a.steps, a.u)) },
		"Weights":     func(a arguments) (any, api.Errno) { return pair(code.Weights(a.steps, a.stepCopy)) },
		"Tail":        func(a arguments) (any, api.Errno) { return pair(code.Tail(a.d, a.k, a.x)) },
		"Threshold":   func(a arguments) (any, api.Errno) { return pair(code.Threshold(a.steps, a.k)) },
		"Complete":    func(a arguments) (any, api.Errno) { return pair(code.Complete(a.steps)) },
		"TraceSteps":  func(a arguments) (any, api.Errno) { return pair(code.TraceSteps(a.steps, a.stepCopy)) },
		"CheckScores": func(a arguments) (any, api.Errno) { return 0, code.CheckScores(a.scores) },
		"ScoreWord":   func(a arguments) (any, api.Errno) { return pair(code.ScoreWord(a.scores, a.u)) },
		"Score":       func(a arguments) (any, api.Errno) { return pair(code.Score(a.scores, a.word, a.scoreCopy)) },
		"Chance":      func(a arguments) (any, api.Errno) { return pair(code.Chance(a.scores, a.scoreCopy, a.z)) },
		"Bound":       func(a arguments) (any, api.Errno) { return pair(code.Bound(a.scores, a.scoreCopy, a.limit)) },
		"TraceScores": func(a arguments) (any, api.Errno) { return pair(code.TraceScores(a.scores, a.scoreCopy, a.limit)) },
		"CheckLevels": func(a arguments) (any, api.Errno) { return 0, code.CheckLevels(a.levels) },
		"LevelWord":   func(a arguments) (any, api.Errno) { return pair(code.LevelWord(a.levels, a.group, a.member)) },
		"TraceLevels": func(a arguments) (any, api.Errno) { return pair(code.TraceLevels(a.levels, a.levelCopy)) },
	}
}

func pair[T any](result T, e api.Errno) (any, api.Errno) { return result, e }

// isEmpty reports whether a result is a zero value; lists may be nil or empty (R2).
func isEmpty(result any) bool {
	switch x := result.(type) {
	case []uint8:
		return len(x) == 0
	case []int:
		return len(x) == 0
	case []api.Accused:
		return len(x) == 0
	case api.Fraction:
		return len(x.Num) == 0 && len(x.Den) == 0
	}
	return reflect.ValueOf(result).IsZero()
}

// room returns a list with memory behind its length.
func room[T any](l []T) []T { return append(make([]T, 0, len(l)+20), l...) }

// spare gives all lists in some arguments memory behind their length.
func spare(a *arguments) {
	a.words = room(a.words)
	for i := range a.words {
		a.words[i] = room(a.words[i])
	}
	for _, l := range []*[]uint8{&a.y, &a.stepCopy, &a.word, &a.scoreCopy, &a.levelCopy} {
		*l = room(*l)
	}
	for _, f := range []*api.Fraction{&a.steps.Limit, &a.limit, &a.levels.Limit} {
		f.Num, f.Den = room(f.Num), room(f.Den)
	}
	a.scores.Biases = room(a.scores.Biases)
}

// whole returns a copy of a list with the memory behind its length.
func whole[T any](l []T) []T { return slices.Clone(l[:cap(l)]) }

// memory returns copies of all memory of the arguments.
func memory(a arguments) []any {
	l := []any{whole(a.scores.Biases), len(a.words)}
	for _, w := range a.words[:cap(a.words)] {
		l = append(l, whole(w))
	}
	for _, y := range [][]uint8{a.y, a.stepCopy, a.word, a.scoreCopy, a.levelCopy} {
		l = append(l, whole(y))
	}
	for _, f := range []api.Fraction{a.steps.Limit, a.limit, a.levels.Limit} {
		l = append(l, whole(f.Num), whole(f.Den))
	}
	return l
}

// deepCopy returns a copy of a result that shares no memory with it.
func deepCopy(result any) any {
	switch x := result.(type) {
	case []uint8:
		return slices.Clone(x)
	case []int:
		return slices.Clone(x)
	case []api.Accused:
		return slices.Clone(x)
	case api.Fraction:
		return api.Fraction{Num: slices.Clone(x.Num), Den: slices.Clone(x.Den)}
	}
	return result
}

// wipe fills the memory of a list, also that behind its length.
func wipe[T any](l []T, with T) {
	l = l[:cap(l)]
	for i := range l {
		l[i] = with
	}
}

// overwrite fills the memory of the lists of a result, and reports whether two of them share some.
func overwrite(result any) bool {
	switch x := result.(type) {
	case []uint8:
		wipe(x, 77)
	case []int:
		wipe(x, 77)
	case []api.Accused:
		wipe(x, api.Accused{Group: 77, Member: 77})
	case api.Fraction:
		wipe(x.Num, 77)
		wipe(x.Den, 78)
		return slices.Contains(x.Num[:cap(x.Num)], 78)
	}
	return false
}

// someArguments returns arguments with which the calls have results, or, if wrong, with some that are not valid.
func someArguments(r *rand.Rand, wrong bool) arguments {
	a := arguments{steps: someSteps(r), scores: someScores(r), levels: someLevels(r)}
	places := r.Intn(20)
	for range 1 + r.Intn(5) {
		a.words = append(a.words, someList(r, places, 2))
	}
	a.y = pick(r, someFeasible(r, a.words), someList(r, places, 3))
	a.stepCopy = pick(r, someList(r, (a.steps.Users-1)*a.steps.Block, 3), stepWordOf(a.steps, 1))
	a.word, a.scoreCopy = someList(r, len(a.scores.Biases), 2), someList(r, len(a.scores.Biases), 3)
	a.levelCopy = someLevelCopy(r, a.levels)
	a.d = 1 + r.Intn(10)
	a.k = r.Intn(2*min(a.d, a.steps.Block) + 1)
	a.x = r.Intn(a.k+2) - 1
	a.z, a.u = r.Intn(21)-10, r.Intn(min(a.scores.Users, a.steps.Users))
	a.limit = part(int64(r.Intn(9)), 9)
	a.group, a.member = r.Intn(a.levels.Groups), r.Intn(a.levels.Members)
	if wrong {
		spoil(r, &a)
	}
	spare(&a)
	return a
}

// spoil makes some arguments wrong.
func spoil(r *rand.Rand, a *arguments) {
	far := func() int { return pick(r, append(wild(), -1, 0, 1, 2, 64, 65)...) }
	list := func() []uint8 { return pick(r, wrongCopies(1+r.Intn(30))...) }
	switch r.Intn(8) {
	case 0:
		a.d, a.k, a.x = far(), far(), far()
	case 1:
		a.u, a.z, a.group, a.member = far(), far(), far(), far()
	case 2:
		a.steps, a.scores, a.levels = pick(r, wrongSteps()...), pick(r, wrongScores()...), pick(r, wrongLevels()...)
	case 3:
		a.limit = pick(r, wrongLimits()...)
	case 4:
		a.y, a.stepCopy, a.scoreCopy, a.levelCopy = list(), list(), list(), list()
	case 5:
		a.word = list()
		a.words = append(a.words, list())
	case 6:
		a.words, a.y = nil, nil
	default:
		a.words = slices.Repeat(a.words, 65)
		a.levels.Groups, a.levels.Members = far(), far()
		a.steps.Users, a.steps.Block = far(), far()
		a.scores.Users, a.scores.Base = far(), far()
	}
}

func TestRules(t *testing.T) { // R2, R3, R7
	r := rand.New(rand.NewSource(32))
	results, errors := map[string]int{}, map[string]int{}
	for i := range 700 {
		a := someArguments(r, i%2 == 1)
		before := memory(a)
		for name, call := range calls() {
			first, e := call(a)
			if e != api.OK && !isEmpty(first) {
				t.Fatalf("%s: %v with %v", name, first, e)
			}
			if e == api.OK {
				results[name]++
			} else {
				errors[name]++
			}
			// What a caller does with one result is not seen in the next, nor in its other lists.
			want := deepCopy(first)
			if overwrite(first) {
				t.Fatalf("%s: lists share memory", name)
			}
			if !reflect.DeepEqual(before, memory(a)) {
				t.Fatalf("%s: arguments were changed, or are shared: %+v", name, a)
			}
			second, again := call(a)
			if e != again || !reflect.DeepEqual(second, want) {
				t.Fatalf("%s: %v, %v, and then %v, %v", name, want, e, second, again)
			}
		}
	}
	for name := range calls() {
		if results[name] < 250 || errors[name] < 20 {
			t.Error(name, "has too few results or errors:", results[name], errors[name])
		}
	}
}

func TestNilIsEmpty(t *testing.T) { // R4
	for _, words := range [][][]uint8{{nil}, {{}}, {nil, {}}} {
		for _, y := range [][]uint8{nil, {}} {
			if is, e := code.Feasible(words, y); e != api.OK || !is {
				t.Error(words, y, is, e)
			}
		}
	}
	for _, none := range []api.Natural{nil, {}} {
		limit := api.Fraction{Num: none, Den: api.Natural{1}}
		if e := code.CheckSteps(api.Steps{Users: 2, Block: 1, Limit: limit}); e != api.OK {
			t.Error(e)
		}
		if e := code.CheckLevels(api.Levels{Groups: 2, Members: 2, Block: 1, Limit: limit}); e != api.OK {
			t.Error(e)
		}
		if n, e := code.Bound(api.Scores{Users: 1, Base: 2, Biases: []int{1}}, []uint8{1}, limit); e != api.OK || n != 2 {
			t.Error(n, e)
		}
	}
}

func TestFieldsOfAnySize(t *testing.T) { // R5, R7: no product of fields overflows unnoticed
	far := []int{1 << 31, 1<<32 + 2, 1 << 62, 1<<62 + 2, math.MaxInt, math.MinInt, math.MinInt + 1, -1}
	for _, a := range far {
		for _, b := range append(far, 1, 2, 3) {
			for _, y := range [][]uint8{nil, {1}, {0, 1}} {
				c := api.Steps{Users: a, Block: b, Limit: part(1, 2)}
				if l, e := code.TraceSteps(c, y); e != api.ErrCode || len(l) != 0 {
					t.Error(a, b, l, e)
				}
				for _, c := range []api.Levels{{Groups: a, Members: b, Block: 1, Limit: part(1, 2)}, {Groups: 2, Members: a, Block: b, Limit: part(1, 2)}} {
					if l, e := code.TraceLevels(c, y); e != api.ErrCode || len(l) != 0 {
						t.Error(a, b, l, e)
					}
				}
			}
			if f, e := code.Tail(a, b, -1); e != api.ErrArg || len(f.Den) != 0 {
				t.Error(a, b, f, e)
			}
			if f, e := code.Tail(2, a, b); e != api.ErrArg || len(f.Den) != 0 {
				t.Error(a, b, f, e)
			}
		}
	}
}
