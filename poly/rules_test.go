package poly_test

import (
	"math/rand"
	"reflect"
	"slices"
	"testing"

	"headend/api"
	"headend/poly"
)

// arguments are all that the calls take.
type arguments struct {
	root, session api.Key
	s             api.Scheme
	coefficients  []uint64
	x, nonce      uint64
	points        []api.Point
	receiver      int
	revoked       []int
	secret        api.Secret
	header        api.Header
	punctured     api.Punctured
	depth, n      int
}

type call = func(a arguments) (any, api.Errno)

// schemeCalls returns all calls with a scheme, each with its result and its error.
func schemeCalls() map[string]call {
	return map[string]call{
		"Check":        func(a arguments) (any, api.Errno) { return 0, poly.Check(a.s) },
		"Coefficients": func(a arguments) (any, api.Errno) { return pair(poly.Coefficients(a.root, a.s)) },
		"Value":        func(a arguments) (any, api.Errno) { return pair(poly.Value(a.s, a.coefficients, a.x)) },
		"Interpolate":  func(a arguments) (any, api.Errno) { return pair(poly.Interpolate(a.s, a.points)) },
		"Secret":       func(a arguments) (any, api.Errno) { return pair(poly.Secret(a.root, a.s, a.receiver)) },
		"Seal":         func(a arguments) (any, api.Errno) { return pair(poly.Seal(a.root, a.s, a.revoked, a.session, a.nonce)) },
		"Open":         func(a arguments) (any, api.Errno) { return pair(poly.Open(a.s, a.secret, a.header)) },
	}
}

// calls returns all calls.
func calls() map[string]call {
	l := schemeCalls()
	l["Full"] = func(a arguments) (any, api.Errno) { return pair(poly.Full(a.root, a.depth)) }
	l["CheckPunctured"] = func(a arguments) (any, api.Errno) { return 0, poly.CheckPunctured(a.punctured) }
	l["Puncture"] = func(a arguments) (any, api.Errno) { return pair(poly.Puncture(a.punctured, a.n)) }
	l["Evaluate"] = func(a arguments) (any, api.Errno) { return pair(poly.Evaluate(a.punctured, a.n)) }
	return l
}

func pair[T any](result T, e api.Errno) (any, api.Errno) { return result, e }

// isEmpty reports whether a result is a zero value; lists may be nil or empty (R2).
func isEmpty(result any) bool {
	switch x := result.(type) {
	case []uint64:
		return len(x) == 0
	case api.Secret:
		return isSameSecret(x, api.Secret{})
	case api.Header:
		return isSameHeader(x, api.Header{})
	case api.Punctured:
		return isSamePunctured(x, api.Punctured{})
	}
	return reflect.ValueOf(result).IsZero()
}

// spare returns a copy of a list with memory behind its length.
func spare[T any](l []T) []T { return append(make([]T, 0, len(l)+5), l...) }

// whole returns a copy of a list with the memory behind its length.
func whole[T any](l []T) []T { return slices.Clone(l[:cap(l)]) }

// someArguments returns arguments with which most calls have results, or, if wrong, with some that are not valid.
func someArguments(r *rand.Rand, wrong bool) arguments {
	all := schemes()
	s := all[r.Intn(len(all))]
	a := arguments{root: random(r), session: random(r), s: s, nonce: r.Uint64(), receiver: r.Intn(1 << s.Depth)}
	a.coefficients, a.x = spare(someCoefficients(r, s)), r.Uint64()%s.Group.Q
	a.points = spare(somePoints(r, s))
	a.revoked = spare(someReceivers(r, s.Depth, r.Intn(s.Degree+1)))
	a.secret.Labels = spare([]api.Label{{Node: 1}})
	a.secret.Share, a.header = anyHeader(r, s, a.session)
	a.header.Items, a.header.Points = spare([]api.Item{}), spare(a.header.Points)
	a.depth = r.Intn(7)
	a.punctured, a.n = anyPunctured(r, a.depth), r.Intn(1<<a.depth)
	a.punctured.Labels = spare(a.punctured.Labels)
	if wrong {
		spoil(r, &a)
	}
	return a
}

// spoil makes some arguments wrong.
func spoil(r *rand.Rand, a *arguments) {
	far := wild()
	number := func() int { return far[r.Intn(len(far))] }
	large := func() uint64 { return wildNumbers()[r.Intn(7)] }
	switch r.Intn(6) {
	case 0:
		a.s = wrongSchemes()[r.Intn(len(wrongSchemes()))]
	case 1:
		a.coefficients[0], a.points[0].X = large(), large()
		a.header.Base = large()
	case 2:
		a.x, a.points[1].Y = large(), large()
		a.header.Points[0].Y = large()
	case 3:
		a.receiver, a.n, a.depth = number(), number(), number()
		a.revoked = append(a.revoked, number())
		a.secret.Share.X = a.header.Points[0].X
	case 4:
		a.punctured = wrongPunctured()[r.Intn(len(wrongPunctured()))]
		a.secret.Share.Y = large()
	default:
		a.header.Items = append(a.header.Items, api.Item{})
		a.coefficients = append(a.coefficients, 0)
		a.points = a.points[:1]
		a.punctured.Depth = number()
	}
}

// memory returns copies of all memory of the arguments.
func memory(a arguments) []any {
	return []any{
		whole(a.coefficients), whole(a.points), whole(a.revoked), whole(a.secret.Labels),
		whole(a.header.Items), whole(a.header.Points), whole(a.punctured.Labels),
	}
}

func TestRules(t *testing.T) { // R2, R3, R7
	r := rand.New(rand.NewSource(1))
	for i := range 3000 {
		a := someArguments(r, i%2 == 1)
		before := memory(a)
		for name, call := range calls() {
			first, e := call(a)
			if e != api.OK && !isEmpty(first) {
				t.Fatalf("%s: %v with %v", name, first, e)
			}
			// What a caller does with one result is not seen in the next.
			want := deepCopy(first)
			overwrite(first)
			second, again := call(a)
			if e != again || !reflect.DeepEqual(second, want) {
				t.Fatalf("%s: %v, %v, and then %v, %v", name, want, e, second, again)
			}
			if !reflect.DeepEqual(before, memory(a)) {
				t.Fatalf("%s: arguments were changed: %+v", name, a)
			}
		}
	}
}

// deepCopy returns a copy of a result that shares no memory with it.
func deepCopy(result any) any {
	switch x := result.(type) {
	case []uint64:
		return slices.Clone(x)
	case api.Header:
		x.Points = slices.Clone(x.Points)
		return x
	case api.Punctured:
		x.Labels = slices.Clone(x.Labels)
		return x
	}
	return result
}

// overwrite clears the memory of a result, also that behind its length.
func overwrite(result any) {
	switch x := result.(type) {
	case []uint64:
		clear(x[:cap(x)])
	case api.Header:
		clear(x.Points[:cap(x.Points)])
	case api.Punctured:
		clear(x.Labels[:cap(x.Labels)])
	}
}

func TestWrongSchemeComesFirst(t *testing.T) { // R1: Check's error before all others
	r := rand.New(rand.NewSource(2))
	for i := range 100 {
		a := someArguments(r, i%2 == 1)
		if i%3 == 0 {
			a.coefficients, a.points, a.revoked = nil, make([]api.Point, 50), slices.Repeat([]int{-1}, 50)
		}
		for _, a.s = range wrongSchemes() {
			for name, call := range schemeCalls() {
				if result, e := call(a); e != api.ErrScheme || !isEmpty(result) {
					t.Fatalf("%s with %+v: %v, %v", name, a.s, result, e)
				}
			}
		}
	}
}

func TestNilIsEmpty(t *testing.T) { // R4
	s := example()
	for _, revoked := range [][]int{nil, {}} {
		h := must[api.Header](t)(poly.Seal(api.Key{}, s, revoked, api.Key{1}, 0))
		for _, h.Items = range [][]api.Item{nil, {}} {
			if k, e := poly.Open(s, secretOf(t, api.Key{}, s, 0), h); e != api.OK || k != (api.Key{1}) {
				t.Error(k, e)
			}
		}
	}
	for _, labels := range [][]api.Label{nil, {}} {
		p := api.Punctured{Depth: 3, Labels: labels}
		q, e := poly.Puncture(p, 7)
		if e != api.OK || !isSamePunctured(p, q) {
			t.Error(q, e)
		}
		if k, e := poly.Evaluate(p, 7); e != api.ErrNone || k != (api.Key{}) {
			t.Error(k, e)
		}
	}
	for _, empty := range []api.Header{{}, {Items: []api.Item{}, Points: []api.Point{}}} {
		if k, e := poly.Open(s, api.Secret{}, empty); e != api.ErrBad || k != (api.Key{}) {
			t.Error(k, e)
		}
	}
}
