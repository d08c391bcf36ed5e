package cover_test

import (
	"math/rand"
	"reflect"
	"slices"
	"testing"

	"headend/api"
	"headend/cover"
)

// arguments are all that the calls take.
type arguments struct {
	root, session api.Key
	s             api.Scheme
	receiver      int
	list          []int
	x             api.Subset
	subsets       []api.Subset
	secret        api.Secret
	header        api.Header
	bytes         []byte
}

// calls returns all calls, each with its result and its error.
func calls() map[string]func(a arguments) (any, api.Errno) {
	type call = func(a arguments) (any, api.Errno)
	return map[string]call{
		"Check":     func(a arguments) (any, api.Errno) { return 0, cover.Check(a.s) },
		"Members":   func(a arguments) (any, api.Errno) { return pair(cover.Members(a.s, a.x)) },
		"Cover":     func(a arguments) (any, api.Errno) { return pair(cover.Cover(a.s, a.list)) },
		"Split":     func(a arguments) (any, api.Errno) { return pair(cover.Split(a.s, a.x)) },
		"Storage":   func(a arguments) (any, api.Errno) { return pair(cover.Storage(a.s)) },
		"Secret":    func(a arguments) (any, api.Errno) { return pair(cover.Secret(a.root, a.s, a.receiver)) },
		"SubsetKey": func(a arguments) (any, api.Errno) { return pair(cover.SubsetKey(a.root, a.s, a.x)) },
		"Find":      func(a arguments) (any, api.Errno) { return pair(cover.Find(a.s, a.secret, a.x)) },
		"Work":      func(a arguments) (any, api.Errno) { return pair(cover.Work(a.s, a.receiver, a.x)) },
		"Knows":     func(a arguments) (any, api.Errno) { return pair(cover.Knows(a.s, a.list, a.x)) },
		"Seal":      func(a arguments) (any, api.Errno) { return pair(cover.Seal(a.root, a.s, a.subsets, a.session)) },
		"Open":      func(a arguments) (any, api.Errno) { return pair(cover.Open(a.s, a.secret, a.header)) },
		"Encode":    func(a arguments) (any, api.Errno) { return pair(cover.Encode(a.header)) },
		"Decode":    func(a arguments) (any, api.Errno) { return pair(cover.Decode(a.bytes)) },
	}
}

func pair[T any](result T, e api.Errno) (any, api.Errno) { return result, e }

// isEmpty reports whether a result is a zero value; an empty list is one (R2).
func isEmpty(result any) bool {
	v := reflect.ValueOf(result)
	return v.IsZero() || v.Kind() == reflect.Slice && v.Len() == 0
}

// spare returns a copy of a list with memory behind its length.
func spare[T any](l []T) []T { return append(make([]T, 0, len(l)+5), l...) }

// whole returns a copy of a list with the memory behind its length.
func whole[T any](l []T) []T { return slices.Clone(l[:cap(l)]) }

// someArguments returns arguments with which most calls have results, or, if wrong, with some that are not valid.
func someArguments(t *testing.T, r *rand.Rand, wrong bool) arguments {
	t.Helper()
	all := schemes()
	s := all[r.Intn(len(all))]
	a := arguments{root: random(r), session: random(r), s: s, receiver: r.Intn(1 << s.Depth)}
	a.list = spare(someReceivers(r, s.Depth, 3))
	a.x = someSubsets(r, s, 1)[0]
	a.subsets = spare(someSubsets(r, s, 1+r.Intn(8)))
	a.secret = secretOf(t, a.root, s, a.receiver)
	a.secret.Labels = spare(a.secret.Labels)
	a.header = must[api.Header](t)(cover.Seal(a.root, s, a.subsets, a.session))
	a.header.Items = spare(a.header.Items)
	a.header.Points = spare([]api.Point{})
	a.bytes = spare(bytesOf(anyHeader(r, r.Intn(5), r.Intn(5))))
	if wrong {
		spoil(r, &a)
	}
	return a
}

// spoil makes some arguments wrong.
func spoil(r *rand.Rand, a *arguments) {
	far := wild()
	number := func() int { return far[r.Intn(len(far))] }
	if r.Intn(6) == 0 {
		a.s = wrongSchemes()[r.Intn(len(wrongSchemes()))]
	}
	if r.Intn(2) == 0 {
		a.receiver = number()
	}
	if r.Intn(2) == 0 {
		a.list = append(a.list, number(), number())
	}
	if r.Intn(2) == 0 {
		a.x = api.Subset{Node: number(), Minus: number()}
	}
	if r.Intn(2) == 0 {
		a.subsets[0].Minus = number()
	}
	for i := range a.secret.Labels {
		a.secret.Labels[i].Minus = number()
	}
	if r.Intn(2) == 0 {
		a.header.Items[0].Subset.Node = number()
		a.header.Points = make([]api.Point, r.Intn(20))
	}
	a.bytes[0] = byte(r.Intn(256))
}

func TestRules(t *testing.T) { // R2, R3, R7
	r := rand.New(rand.NewSource(14))
	for i := range 2000 {
		a := someArguments(t, r, i%2 == 1)
		list, subsets, labels := whole(a.list), whole(a.subsets), whole(a.secret.Labels)
		items, points, text := whole(a.header.Items), whole(a.header.Points), whole(a.bytes)
		for name, call := range calls() {
			first, e := call(a)
			if e != api.OK && !isEmpty(first) {
				t.Fatalf("%s: %v with %v", name, first, e)
			}
			// What a caller does with one result is not seen in the next.
			want := deepCopy(first)
			overwrite(first)
			second, again := call(a)
			if e != again || !reflect.DeepEqual(second, want) {
				t.Fatalf("%s: %v, %v, and then %v, %v", name, want, e, second, again)
			}
		}
		if !slices.Equal(list, whole(a.list)) || !slices.Equal(subsets, whole(a.subsets)) || !slices.Equal(labels, whole(a.secret.Labels)) ||
			!slices.Equal(items, whole(a.header.Items)) || !slices.Equal(points, whole(a.header.Points)) || !slices.Equal(text, whole(a.bytes)) {
			t.Fatalf("arguments were changed: %+v", a)
		}
	}
}

// deepCopy returns a copy of a result that shares no memory with it.
func deepCopy(result any) any {
	switch x := result.(type) {
	case []int:
		return slices.Clone(x)
	case []api.Subset:
		return slices.Clone(x)
	case []byte:
		return slices.Clone(x)
	case api.Secret:
		x.Labels = slices.Clone(x.Labels)
		return x
	case api.Header:
		x.Items, x.Points = slices.Clone(x.Items), slices.Clone(x.Points)
		return x
	}
	return result
}

// overwrite clears the memory of a result, also that behind its length.
func overwrite(result any) {
	switch x := result.(type) {
	case []int:
		clear(x[:cap(x)])
	case []api.Subset:
		clear(x[:cap(x)])
	case []byte:
		clear(x[:cap(x)])
	case api.Secret:
		clear(x.Labels[:cap(x.Labels)])
	case api.Header:
		clear(x.Items[:cap(x.Items)])
		clear(x.Points[:cap(x.Points)])
	}
}

func TestWrongSchemeComesFirst(t *testing.T) { // R1: Check's error before all others
	r := rand.New(rand.NewSource(15))
	for i := range 100 {
		a := someArguments(t, r, i%2 == 1)
		if i%3 == 0 {
			a.subsets = make([]api.Subset, 100)
			a.header = anyHeader(r, 100, 100)
		}
		for _, a.s = range wrongSchemes() {
			for name, call := range calls() {
				if name == "Encode" || name == "Decode" {
					continue
				}
				if result, e := call(a); e != api.ErrScheme || !isEmpty(result) {
					t.Fatalf("%s with %+v: %v, %v", name, a.s, result, e)
				}
			}
		}
	}
}
