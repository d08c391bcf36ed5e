package trace_test

import (
	"math"
	"math/rand"
	"reflect"
	"slices"
	"testing"

	"headend/api"
	"headend/trace"
)

// arguments are all that the calls take.
type arguments struct {
	users, pirates, variant, fakes, noise int
	h                                     api.Hunt
	b                                     api.Box
	s                                     api.Scheme
	queried, parts                        []api.Subset
	root, session                         api.Key
}

// asked is what Ask returns, and traced what Trace returns.
type asked struct {
	b     api.Box
	plays bool
}

type traced struct {
	f api.Finding
	b api.Box
}

type call = func(a arguments) (any, api.Errno)

// calls returns all calls, each with its result and its error.
func calls() map[string]call {
	return map[string]call{
		"NewHunt":   func(a arguments) (any, api.Errno) { return pair(trace.NewHunt(a.users)) },
		"CheckHunt": func(a arguments) (any, api.Errno) { return 0, trace.CheckHunt(a.h) },
		"Variants":  func(a arguments) (any, api.Errno) { return pair(trace.Variants(a.h)) },
		"Hear":      func(a arguments) (any, api.Errno) { return pair(trace.Hear(a.h, a.variant)) },
		"Rounds":    func(a arguments) (any, api.Errno) { return pair(trace.Rounds(a.users, a.pirates)) },
		"CheckBox":  func(a arguments) (any, api.Errno) { return 0, trace.CheckBox(a.b) },
		"Ask": func(a arguments) (any, api.Errno) {
			b, plays, e := trace.Ask(a.b, a.queried, a.fakes)
			return asked{b, plays}, e
		},
		"CheckParts": func(a arguments) (any, api.Errno) { return 0, trace.CheckParts(a.s, a.parts) },
		"Hybrid": func(a arguments) (any, api.Errno) {
			return pair(trace.Hybrid(a.root, a.s, a.parts, a.fakes, a.session))
		},
		"Trace": func(a arguments) (any, api.Errno) {
			f, b, e := trace.Trace(a.b, a.parts, a.noise)
			return traced{f, b}, e
		},
		"Bound": func(a arguments) (any, api.Errno) { return pair(trace.Bound(a.s, a.noise)) },
	}
}

func pair[T any](result T, e api.Errno) (any, api.Errno) { return result, e }

// isEmpty reports whether a result is a zero value; lists may be nil or empty (R2).
func isEmpty(result any) bool {
	switch x := result.(type) {
	case []int:
		return len(x) == 0
	case api.Hunt:
		return isSameHunt(x, api.Hunt{})
	case asked:
		return isSameBox(x.b, api.Box{}) && !x.plays
	case traced:
		return isSameBox(x.b, api.Box{}) && isSameFinding(x.f, api.Finding{})
	}
	return reflect.ValueOf(result).IsZero()
}

// room returns a list with memory behind its length.
func room[T any](l []T) []T { return append(make([]T, 0, len(l)+20), l...) }

// spare gives all lists in some arguments memory behind their length.
func spare(a *arguments) {
	a.h.Pairs = room(a.h.Pairs)
	for _, l := range listsOf(&a.h) {
		*l = room(*l)
	}
	a.b.Coalition, a.queried, a.parts = room(a.b.Coalition), room(a.queried), room(a.parts)
}

// whole returns a copy of a list with the memory behind its length.
func whole[T any](l []T) []T { return slices.Clone(l[:cap(l)]) }

// memory returns copies of all memory of the arguments.
func memory(a arguments) []any {
	l := []any{whole(a.b.Coalition), whole(a.queried), whole(a.parts), whole(a.h.Rest), whole(a.h.Named), len(a.h.Pairs)}
	for _, p := range a.h.Pairs[:cap(a.h.Pairs)] {
		l = append(l, whole(p.Left), whole(p.Right))
	}
	return l
}

// deepCopy returns a copy of a result that shares no memory with it.
func deepCopy(result any) any {
	switch x := result.(type) {
	case []int:
		return slices.Clone(x)
	case api.Hunt:
		return cloneHunt(x)
	case asked:
		x.b.Coalition = slices.Clone(x.b.Coalition)
		return x
	case api.Header:
		x.Items, x.Points = slices.Clone(x.Items), slices.Clone(x.Points)
		return x
	case traced:
		x.b.Coalition, x.f.Named, x.f.Subsets = slices.Clone(x.b.Coalition), slices.Clone(x.f.Named), slices.Clone(x.f.Subsets)
		return x
	}
	return result
}

// wipe fills the memory of a list, also that behind its length.
func wipe[T any](l []T, with T) {
	l = l[:cap(l)]
	for i := range l {
		l[i] = with
	}
}

// wipeAll fills the memory of some lists, each with a number of its own, and reports whether two of them share some.
func wipeAll(lists ...[]int) bool {
	for i, l := range lists {
		wipe(l, 1000+i)
	}
	for i, l := range lists {
		if slices.ContainsFunc(l[:cap(l)], func(n int) bool { return n != 1000+i }) {
			return true
		}
	}
	return false
}

// overwrite fills the memory of the lists of a result, and reports whether two of them share some.
func overwrite(result any) bool {
	switch x := result.(type) {
	case []int:
		return wipeAll(x)
	case api.Hunt:
		var lists [][]int
		for _, l := range listsOf(&x) {
			lists = append(lists, *l)
		}
		shared := wipeAll(lists...)
		wipe(x.Pairs, api.Pair{Left: []int{1000}})
		return shared
	case asked:
		return wipeAll(x.b.Coalition)
	case api.Header:
		wipe(x.Items, api.Item{Subset: api.Subset{Node: 1000}})
		wipe(x.Points, api.Point{X: 1000})
	case traced:
		wipe(x.f.Subsets, api.Subset{Node: 1000})
		return wipeAll(x.b.Coalition, x.f.Named)
	}
	return false
}

// someArguments returns arguments with which the calls have results, or, if wrong, with some that are not valid.
func someArguments(t *testing.T, r *rand.Rand, wrong bool) arguments {
	t.Helper()
	a := arguments{h: someHunt(r), b: someBox(r), root: randomKey(r), session: randomKey(r), noise: r.Intn(9)}
	a.users = 1 + r.Intn(64)
	a.pirates = r.Intn(a.users + 1)
	a.s = a.b.Scheme
	a.parts = someParts(t, r, a.s)
	a.queried = someSubsets(r, a.s, len(a.parts)+r.Intn(65-len(a.parts)))
	a.fakes = r.Intn(len(a.parts) + 1)
	variants := must[[]int](t)(trace.Variants(a.h))
	a.variant = pick(r, variants...)
	if a.variant == -1 && slices.Max(variants) >= 0 {
		a.variant = slices.Max(variants)
	}
	if wrong {
		spoil(r, &a)
	}
	spare(&a)
	return a
}

// spoil makes some arguments wrong.
func spoil(r *rand.Rand, a *arguments) {
	far := func() int { return pick(r, append(wild(), -1, 0, 1, 64, 65)...) }
	switch r.Intn(8) {
	case 0:
		a.users, a.pirates, a.variant, a.fakes, a.noise = far(), far(), far(), far(), far()
	case 1:
		a.h = pick(r, wrongHunts(r, a.h)...)
	case 2:
		a.b = pick(r, wrongBoxes()...)
		a.s = pick(r, wrongSchemes()...)
	case 3:
		a.b.Scheme = pick(r, wrongSchemes()...)
	case 4:
		a.queried = append(a.queried, pick(r, wrongSubsets(a.s)...))
		a.parts = append(a.parts, pick(r, wrongSubsets(a.s)...))
	case 5:
		a.queried, a.parts = make([]api.Subset, 65+r.Intn(100)), slices.Repeat([]api.Subset{{Node: 1}}, 2+r.Intn(70))
	case 6:
		a.b.Asked, a.h.Rounds = api.MaxQueries, api.MaxQueries
	default:
		a.b.Scheme.Depth, a.s.Depth, a.b.Noise, a.b.Mixed = far(), far(), far(), far()
		a.h.Users = far()
		a.fakes = len(a.queried) + 1
	}
}

func TestRules(t *testing.T) { // R2, R3, R7
	r := rand.New(rand.NewSource(41))
	results, errors := map[string]int{}, map[string]int{}
	for i := range 1500 {
		a := someArguments(t, r, i%2 == 1)
		before := memory(a)
		for name, call := range calls() {
			first, e := call(a)
			if e != api.OK && !isEmpty(first) {
				t.Fatalf("%s: %v with %v", name, first, e)
			}
			if e == api.OK {
				results[name]++
			} else {
				errors[name]++
			}
			// What a caller does with one result is not seen in the next, nor in its other lists.
			want := deepCopy(first)
			if overwrite(first) {
				t.Fatalf("%s: lists share memory", name)
			}
			if !reflect.DeepEqual(before, memory(a)) {
				t.Fatalf("%s: arguments were changed, or are shared: %+v", name, a)
			}
			second, again := call(a)
			if e != again || !reflect.DeepEqual(deepCopy(second), want) {
				t.Fatalf("%s: %v, %v, and then %v, %v", name, want, e, second, again)
			}
		}
	}
	for name := range calls() {
		if results[name] < 500 || errors[name] < 50 {
			t.Error(name, "has too few results or errors:", results[name], errors[name])
		}
	}
}

func TestSharedArguments(t *testing.T) { // R3: the lists of an argument may share memory, each with the next behind its length
	all := []int{0, 1, 2, 3, 4, 5, 6, 7}
	h := api.Hunt{Users: 8, Named: all[:1], Rest: all[1:3], Pairs: []api.Pair{{Left: all[3:4], Right: all[4:6]}, {Left: all[6:7], Right: all[7:]}}}
	variants := must[[]int](t)(trace.Variants(h))
	for v := range 5 {
		if x, want := hear(t, h, v), huntOf(heardOf(variants, v), 1); !isSameHunt(x, want) {
			t.Errorf("%d: %+v instead of %+v", v, x, want)
		}
		if !slices.Equal(all, []int{0, 1, 2, 3, 4, 5, 6, 7}) {
			t.Fatal(v, all)
		}
	}
}

func TestNilIsEmpty(t *testing.T) { // R4
	for _, none := range [][]int{nil, {}} {
		for _, pairs := range [][]api.Pair{nil, {}} {
			h := api.Hunt{Users: 1, Rest: []int{0}, Pairs: pairs, Named: none}
			if x := hear(t, h, 0); !isSameHunt(x, api.Hunt{Users: 1, Named: []int{0}, Rounds: 1}) {
				t.Error(x)
			}
			if e := trace.CheckHunt(api.Hunt{Users: 1, Rest: none, Pairs: pairs, Named: []int{0}}); e != api.OK {
				t.Error(e)
			}
			if e := trace.CheckHunt(api.Hunt{Users: 1, Rest: []int{0}, Pairs: []api.Pair{{Left: none, Right: none}}}); e != api.ErrBad {
				t.Error(e)
			}
		}
		for _, l := range [][]api.Subset{nil, {}} {
			b := api.Box{Scheme: scheme(api.SchemeSubtree, 2), Coalition: none, Mode: api.BoxAny}
			if x, plays, e := trace.Ask(b, l, 0); e != api.OK || plays || x.Asked != 1 {
				t.Error(x, plays, e)
			}
			if f, x, e := trace.Trace(b, l, 3); e != api.OK || !isSameFinding(f, api.Finding{Asked: 7, End: api.EndSilent}) || x.Asked != 7 {
				t.Error(f, x, e)
			}
			h, e := trace.Hybrid(api.Key{1}, b.Scheme, l, 0, api.Key{2})
			if e != api.OK || len(h.Items) != 0 || h.Check == (api.Key{}) {
				t.Error(h, e)
			}
		}
	}
}

func TestNumbersOfAnySize(t *testing.T) { // R5, R7: no sum or product of arguments overflows unnoticed
	far := []int{1 << 31, 1<<32 + 2, 1 << 58, 1<<59 + 1, 1 << 62, 1<<62 + 2, math.MaxInt, math.MaxInt - 85, math.MinInt, math.MinInt + 1, -1}
	for _, a := range far {
		for _, n := range append(far, 0, 1, 8) {
			if x, e := trace.Bound(scheme(api.SchemeSubtree, a), n); e != api.ErrScheme || x != 0 {
				t.Error(a, n, x, e)
			}
			if x, e := trace.Rounds(a, n); e != api.ErrArg || x != 0 {
				t.Error(a, n, x, e)
			}
			b := api.Box{Scheme: scheme(api.SchemeSubtree, 3), Mode: api.BoxAny, Asked: a, Mixed: n}
			if f, x, e := trace.Trace(b, nil, 0); e != api.ErrBad || f.End != 0 || x.Mode != 0 {
				t.Error(a, n, f, x, e)
			}
			b = api.Box{Scheme: scheme(api.SchemeSubtree, 3), Mode: api.BoxAny, Noise: a, Lives: n}
			if x, plays, e := trace.Ask(b, nil, 0); e != api.ErrBad || plays || x.Mode != 0 {
				t.Error(a, n, x, plays, e)
			}
		}
		// The variant of a pair far away is not that of the first one.
		h := huntOf([]int{1, 2, 0}, 0)
		for _, v := range []int{a, a + 1, 2*a + 1, 2*a + 2} {
			if v < -1 || v > 2 {
				if x, e := trace.Hear(h, v); e != api.ErrVariant || x.Users != 0 {
					t.Error(v, x, e)
				}
			}
		}
	}
}
