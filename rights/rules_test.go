package rights_test

import (
	"math/rand"
	"reflect"
	"slices"
	"testing"

	"headend/api"
	"headend/rights"
)

// arguments are all that the calls take.
type arguments struct {
	b, other                api.Books
	d                       api.Deal
	l                       []api.Deal
	home, receiver, product int
	epoch, depth            int
	deal, books             []byte
	o                       api.Office
	sizes                   [3]int
	disk                    api.Disk
}

// replay is what Replay returns.
type replay struct {
	b    api.Books
	done int
}

type call = func(a arguments) (any, api.Errno)

// calls returns all calls, each with its result and its error.
func calls() map[string]call {
	return map[string]call{
		"Check":     func(a arguments) (any, api.Errno) { return 0, rights.Check(a.b) },
		"CheckDeal": func(a arguments) (any, api.Errno) { return 0, rights.CheckDeal(a.d) },
		"Apply":     func(a arguments) (any, api.Errno) { return pair(rights.Apply(a.b, a.d)) },
		"Replay": func(a arguments) (any, api.Errno) {
			b, done, e := rights.Replay(a.b, a.l)
			return replay{b, done}, e
		},
		"Main":        func(a arguments) (any, api.Errno) { return pair(rights.Main(a.b, a.home)) },
		"Entitled":    func(a arguments) (any, api.Errno) { return pair(rights.Entitled(a.b, a.receiver, a.product, a.epoch)) },
		"Revoked":     func(a arguments) (any, api.Errno) { return pair(rights.Revoked(a.b, a.product, a.epoch, a.depth)) },
		"EncodeDeal":  func(a arguments) (any, api.Errno) { return pair(rights.EncodeDeal(a.d)) },
		"DecodeDeal":  func(a arguments) (any, api.Errno) { return pair(rights.DecodeDeal(a.deal)) },
		"EncodeBooks": func(a arguments) (any, api.Errno) { return pair(rights.EncodeBooks(a.b)) },
		"DecodeBooks": func(a arguments) (any, api.Errno) { return pair(rights.DecodeBooks(a.books)) },
		"Open":        func(arguments) (any, api.Errno) { return rights.Open(), api.OK },
		"CheckOffice": func(a arguments) (any, api.Errno) { return 0, rights.CheckOffice(a.o) },
		"Do":          func(a arguments) (any, api.Errno) { return pair(rights.Do(a.o, a.d)) },
		"Sync":        func(a arguments) (any, api.Errno) { return pair(rights.Sync(a.o)) },
		"Turn":        func(a arguments) (any, api.Errno) { return pair(rights.Turn(a.o)) },
		"Crash":       func(a arguments) (any, api.Errno) { return pair(rights.Crash(a.o, a.sizes[0], a.sizes[1], a.sizes[2])) },
		"Recover":     func(a arguments) (any, api.Errno) { return pair(rights.Recover(a.disk)) },
		"Same":        func(a arguments) (any, api.Errno) { return rights.Same(a.b, a.other), api.OK },
	}
}

func pair[T any](result T, e api.Errno) (any, api.Errno) { return result, e }

// isEmpty reports whether a result is a zero value; lists may be nil or empty (R2).
func isEmpty(result any) bool {
	switch x := result.(type) {
	case []int:
		return len(x) == 0
	case []byte:
		return len(x) == 0
	case api.Books:
		return isSameBooks(x, api.Books{})
	case replay:
		return isSameBooks(x.b, api.Books{}) && x.done == 0
	case api.Office:
		return isSameOffice(x, api.Office{})
	case api.Disk:
		return isSameDisk(x, api.Disk{})
	}
	return reflect.ValueOf(result).IsZero()
}

// spare gives all lists in some arguments memory behind their length.
func spare(a *arguments) {
	roomy := func(b *api.Books) {
		b.Products, b.Cards, b.Grants = room(b.Products), room(b.Cards), room(b.Grants)
		b.Sales, b.Licences = room(b.Sales), room(b.Licences)
	}
	roomy(&a.b)
	roomy(&a.other)
	roomy(&a.o.Books)
	for _, b := range []*[]byte{&a.deal, &a.books, &a.o.Shots[0].Bytes, &a.o.Shots[1].Bytes, &a.o.Log.Bytes, &a.disk.Shots[0], &a.disk.Shots[1], &a.disk.Log} {
		*b = room(*b)
	}
	a.l = room(a.l)
}

func room[T any](l []T) []T { return append(make([]T, 0, len(l)+50), l...) }

// whole returns a copy of a list with the memory behind its length.
func whole[T any](l []T) []T { return slices.Clone(l[:cap(l)]) }

// memory returns copies of all memory of the arguments.
func memory(a arguments) []any {
	l := []any{
		whole(a.l), whole(a.deal), whole(a.books), whole(a.disk.Shots[0]), whole(a.disk.Shots[1]), whole(a.disk.Log),
		whole(a.o.Shots[0].Bytes), whole(a.o.Shots[1].Bytes), whole(a.o.Log.Bytes),
	}
	for _, b := range []api.Books{a.b, a.other, a.o.Books} {
		l = append(l, whole(b.Products), whole(b.Cards), whole(b.Grants), whole(b.Sales), whole(b.Licences))
	}
	return l
}

// deepCopy returns a copy of a result that shares no memory with it.
func deepCopy(result any) any {
	switch x := result.(type) {
	case []int:
		return slices.Clone(x)
	case []byte:
		return slices.Clone(x)
	case api.Books:
		return cloneBooks(x)
	case replay:
		x.b = cloneBooks(x.b)
		return x
	case api.Office:
		x.Books = cloneBooks(x.Books)
		for _, f := range []*api.File{&x.Shots[0], &x.Shots[1], &x.Log} {
			f.Bytes = slices.Clone(f.Bytes)
		}
		return x
	case api.Disk:
		x.Shots = [2][]byte{slices.Clone(x.Shots[0]), slices.Clone(x.Shots[1])}
		x.Log = slices.Clone(x.Log)
		return x
	}
	return result
}

// wipe fills the memory of a list with other bytes, also that behind its length.
func wipe[T any](l []T, with T) {
	l = l[:cap(l)]
	for i := range l {
		l[i] = with
	}
}

// overwrite fills the memory of the lists of a result, and reports whether a list had lost what another one was filled with.
func overwrite(result any) bool {
	shared := false
	byteLists := func(l ...[]byte) {
		for i, b := range l {
			wipe(b, byte(101+i))
		}
		for i, b := range l {
			shared = shared || slices.ContainsFunc(b[:cap(b)], func(c byte) bool { return c != byte(101+i) })
		}
	}
	books := func(b api.Books) {
		wipe(b.Products, api.Product{Price: 77})
		wipe(b.Cards, api.Card{Receiver: 77})
		wipe(b.Grants, api.Grant{Product: 77})
		wipe(b.Sales, api.Sale{Product: 77})
		wipe(b.Licences, api.Licence{Title: 77})
	}
	switch x := result.(type) {
	case []int:
		wipe(x, 77)
	case []byte:
		wipe(x, 77)
	case api.Books:
		books(x)
	case replay:
		books(x.b)
	case api.Office:
		books(x.Books)
		byteLists(x.Shots[0].Bytes, x.Shots[1].Bytes, x.Log.Bytes)
	case api.Disk:
		byteLists(x.Shots[0], x.Shots[1], x.Log)
	}
	return shared
}

// someArguments returns arguments with which most calls have results, or, if wrong, with some that are not valid.
func someArguments(r *rand.Rand, wrong bool) arguments {
	a := arguments{b: someBooks(r), other: someBooks(r), d: someDeal(r), l: someDeals(r, r.Intn(20))}
	a.home, a.receiver, a.product, a.epoch, a.depth = 1+r.Intn(3), r.Intn(64), r.Intn(3), someEpoch(r), r.Intn(7)
	if r.Intn(2) == 0 {
		a.other = cloneBooks(a.b)
	}
	a.deal, a.books = dealBytes(a.d), booksBytes(a.b)
	a.o, a.disk = someOffice(r), someDisk(r)
	a.sizes = [3]int{r.Intn(5000), r.Intn(5000), r.Intn(5000)}
	if wrong {
		spoil(r, &a)
	}
	// One memory for all files.
	if r.Intn(4) == 0 {
		a.o.Shots[1].Bytes = a.o.Log.Bytes
		a.o.Shots[1].Safe = a.o.Log.Safe
		a.disk.Shots[1], a.disk.Log = a.disk.Shots[0], a.disk.Shots[0]
		return a
	}
	spare(&a)
	return a
}

// spoil makes some arguments wrong.
func spoil(r *rand.Rand, a *arguments) {
	far := func() int { return pick(r, edges()...) }
	switch r.Intn(7) {
	case 0:
		a.home, a.receiver, a.product, a.epoch, a.depth = far(), far(), far(), far(), far()
	case 1:
		spoilNumber(r, pick(r, numbers(reflect.ValueOf(&a.b).Elem())...))
		spoilNumber(r, pick(r, numbers(reflect.ValueOf(&a.other).Elem())...))
	case 2:
		spoilNumber(r, pick(r, numbers(reflect.ValueOf(&a.d).Elem())...))
	case 3:
		spoilNumber(r, pick(r, numbers(reflect.ValueOf(&a.o.Books).Elem())...))
	case 4:
		a.o.Count, a.o.Step, a.o.Log.Safe = pick(r, 0, far()), pick(r, 0, far()), far()
		a.sizes = [3]int{far(), far(), far()}
	case 5:
		a.deal, a.books = spoiled(r, a.deal), spoiled(r, a.books)
		a.disk.Shots[0] = someBytes(r, r.Intn(5000))
		a.disk.Log = someBytes(r, r.Intn(5000))
	default:
		a.l = make([]api.Deal, 1001)
		a.b.Cards = make([]api.Card, 1000)
		a.o.Log.Bytes = someBytes(r, r.Intn(5000))
		a.o.Shots[0].Bytes = nil
	}
}

func TestRules(t *testing.T) { // R2, R3, R7
	r := rand.New(rand.NewSource(26))
	results := map[string]int{}
	for i := range 1500 {
		a := someArguments(r, i%2 == 1)
		before := memory(a)
		for name, call := range calls() {
			first, e := call(a)
			if e != api.OK && !isEmpty(first) {
				t.Fatalf("%s: %v with %v", name, first, e)
			}
			if e == api.OK {
				results[name]++
			}
			// What a caller does with one result is not seen in the next, nor in its other lists.
			want := deepCopy(first)
			if overwrite(first) {
				t.Fatalf("%s: lists share memory", name)
			}
			if !reflect.DeepEqual(before, memory(a)) {
				t.Fatalf("%s: arguments were changed, or are shared: %+v", name, a)
			}
			second, again := call(a)
			if e != again || !reflect.DeepEqual(second, want) {
				t.Fatalf("%s: %v, %v, and then %v, %v", name, want, e, second, again)
			}
		}
	}
	for name := range calls() {
		if results[name] < 100 {
			t.Error(name, "has too few results:", results[name])
		}
	}
}

func TestNilIsEmpty(t *testing.T) { // R4
	none := api.Books{Products: []api.Product{}, Cards: []api.Card{}, Grants: []api.Grant{}, Sales: []api.Sale{}, Licences: []api.Licence{}}
	for _, b := range []api.Books{{}, none} {
		if e := rights.Check(b); e != api.OK {
			t.Error(e)
		}
		x := must[[]byte](t)(rights.EncodeBooks(b))
		if len(x) != 69 {
			t.Errorf("%x", x)
		}
		for _, l := range [][]api.Deal{nil, {}} {
			if n, done, e := rights.Replay(b, l); !isSameBooks(n, b) || done != 0 || e != api.OK {
				t.Errorf("%+v, %d, %v", n, done, e)
			}
		}
		o := officeOf(b, 0)
		o.Shots = [2]api.File{{Bytes: []byte{}}, {}}
		d := must[api.Disk](t)(rights.Crash(o, 0, 0, 0))
		for _, disk := range []api.Disk{d, {Shots: [2][]byte{{}, nil}, Log: []byte{}}, {}} {
			if got, e := rights.Recover(disk); e != api.OK || !isSameOffice(got, rights.Open()) {
				t.Errorf("%+v, %v", got, e)
			}
		}
	}
}
