package epoch_test

import (
	"math"
	"math/rand"
	"reflect"
	"slices"
	"testing"

	"headend/api"
	"headend/epoch"
)

// arguments are all that the calls take.
type arguments struct {
	root     api.Key
	s        api.Scheme
	a        api.Air
	tick     int
	local    int
	low      uint8
	epoch    int
	receiver int
	ahead    int
	revoked  []int
	number   uint64
	data     []byte
	secret   api.Secret
	header   api.Header
	packet   api.Packet
	bytes    []byte
	x        api.Receiver
}

// taking is what Take returns.
type taking struct {
	x    api.Receiver
	data []byte
}

type call = func(a arguments) (any, api.Errno)

// calls returns all calls, each with its result and its error.
func calls() map[string]call {
	return map[string]call{
		"CheckAir":    func(a arguments) (any, api.Errno) { return 0, epoch.CheckAir(a.a) },
		"EpochOf":     func(a arguments) (any, api.Errno) { return pair(epoch.EpochOf(a.a, a.tick)) },
		"PeriodOf":    func(a arguments) (any, api.Errno) { return pair(epoch.PeriodOf(a.a, a.tick)) },
		"Due":         func(a arguments) (any, api.Errno) { return pair(epoch.Due(a.a, a.tick)) },
		"Resolve":     func(a arguments) (any, api.Errno) { return pair(epoch.Resolve(a.a, a.local, a.low)) },
		"InTime":      func(a arguments) (any, api.Errno) { return pair(epoch.InTime(a.a, a.local, a.epoch)) },
		"Session":     func(a arguments) (any, api.Errno) { return epoch.Session(a.root, a.epoch), api.OK },
		"Word":        func(a arguments) (any, api.Errno) { return epoch.Word(a.root, a.tick), api.OK },
		"CheckScheme": func(a arguments) (any, api.Errno) { return 0, epoch.CheckScheme(a.s) },
		"Secret":      func(a arguments) (any, api.Errno) { return pair(epoch.Secret(a.root, a.s, a.receiver)) },
		"Seal":        func(a arguments) (any, api.Errno) { return pair(epoch.Seal(a.root, a.s, a.epoch, a.revoked)) },
		"Open":        func(a arguments) (any, api.Errno) { return pair(epoch.Open(a.s, a.secret, a.header)) },
		"CheckPacket": func(a arguments) (any, api.Errno) { return 0, epoch.CheckPacket(a.packet) },
		"Encode":      func(a arguments) (any, api.Errno) { return pair(epoch.Encode(a.packet)) },
		"Decode":      func(a arguments) (any, api.Errno) { return pair(epoch.Decode(a.bytes)) },
		"Head":        func(a arguments) (any, api.Errno) { return pair(epoch.Head(a.root, a.s, a.epoch, a.revoked)) },
		"Content":     func(a arguments) (any, api.Errno) { return pair(epoch.Content(a.root, a.a, a.tick, a.number, a.data)) },
		"New":         func(a arguments) (any, api.Errno) { return pair(epoch.New(a.root, a.s, a.a, a.receiver, a.ahead)) },
		"Check":       func(a arguments) (any, api.Errno) { return 0, epoch.Check(a.s, a.a, a.x) },
		"Take": func(a arguments) (any, api.Errno) {
			x, data, e := epoch.Take(a.s, a.a, a.x, a.packet, a.tick)
			return taking{x, data}, e
		},
	}
}

func pair[T any](result T, e api.Errno) (any, api.Errno) { return result, e }

// isEmpty reports whether a result is a zero value; lists may be nil or empty (R2).
func isEmpty(result any) bool {
	switch x := result.(type) {
	case []int:
		return len(x) == 0
	case []byte:
		return len(x) == 0
	case api.Secret:
		return isSameSecret(x, api.Secret{})
	case api.Header:
		return isSameHeader(x, api.Header{})
	case api.Packet:
		return isSamePacket(x, api.Packet{})
	case api.Receiver:
		return isSameReceiver(x, api.Receiver{})
	case taking:
		return isSameReceiver(x.x, api.Receiver{}) && len(x.data) == 0
	}
	return reflect.ValueOf(result).IsZero()
}

// spare returns a copy of a list with memory behind its length.
func spare[T any](l []T) []T { return append(make([]T, 0, len(l)+5), l...) }

// whole returns a copy of a list with the memory behind its length.
func whole[T any](l []T) []T { return slices.Clone(l[:cap(l)]) }

// someArguments returns arguments with which most calls have results, or, if wrong, with some that are not valid.
func someArguments(t *testing.T, r *rand.Rand, wrong bool) arguments {
	t.Helper()
	all, airs := schemes(), airs()
	a := arguments{root: random(r), s: all[r.Intn(len(all))], a: airs[r.Intn(len(airs))], number: r.Uint64()}
	a.tick, a.low = r.Intn(4*a.a.Epoch), uint8(r.Intn(4))
	a.epoch, a.ahead = a.tick/a.a.Epoch, r.Intn(2*a.a.Drift+1)-a.a.Drift
	a.local, a.receiver = a.tick+a.ahead, r.Intn(1<<a.s.Depth)
	revoked := slices.DeleteFunc(someList(r, a.s), func(u int) bool { return u == a.receiver })
	a.revoked, a.data = spare(revoked), spare(randomBytes(r, r.Intn(100)))
	a.secret = must[api.Secret](t)(epoch.Secret(a.root, a.s, a.receiver))
	a.secret.Labels = spare(a.secret.Labels)
	a.packet = headOf(t, a.root, a.s, a.epoch, a.revoked)
	a.x = api.Receiver{Secret: a.secret, Ahead: a.ahead}
	a.x.Secret.Labels = spare(a.secret.Labels)
	a.header = a.packet.Head
	a.header.Items, a.header.Points = spare(a.header.Items), spare(a.header.Points)
	if r.Intn(2) == 0 {
		a.packet = contentOf(a.root, a.a, a.tick, a.number, a.data)
		a.x.Slots[a.epoch%2] = api.Slot{Full: true, Epoch: a.epoch, Key: session(a.root, a.epoch)}
	}
	a.packet.Data = spare(a.packet.Data)
	a.packet.Head.Items, a.packet.Head.Points = spare(a.packet.Head.Items), spare(a.packet.Head.Points)
	a.bytes = spare(bytesOf(a.packet))
	if wrong {
		spoil(r, &a)
	}
	return a
}

// spoil makes some arguments wrong.
func spoil(r *rand.Rand, a *arguments) {
	numbers := append(wild(), 128, 1000, -1000)
	far := func() int { return numbers[r.Intn(len(numbers))] }
	switch r.Intn(9) {
	case 0:
		a.s = wrongSchemes()[r.Intn(len(wrongSchemes()))].s
	case 1:
		a.a = wrongAirs()[r.Intn(len(wrongAirs()))]
	case 2:
		a.tick, a.local, a.epoch, a.receiver, a.ahead = far(), far(), far(), far(), far()
	case 3:
		a.low, a.packet.Low = 4, 4
		a.revoked = append(a.revoked, far())
	case 4:
		a.data, a.packet.Data = make([]byte, 300), make([]byte, 300)
	case 5:
		a.bytes = a.bytes[:r.Intn(len(a.bytes))]
		a.packet.Kind = uint8(r.Intn(4))
	case 6:
		a.x.Slots[r.Intn(2)].Epoch = far()
		a.x.Secret.Receiver, a.packet.Epoch = far(), far()
	case 7:
		a.packet.Mac[0] ^= 1
		a.header.Check[0] ^= 1
		a.packet.Head.Items = append(a.packet.Head.Items, api.Item{Subset: api.Subset{Node: far(), Minus: far()}})
	default:
		a.secret.Labels = append(a.secret.Labels, api.Label{Node: far(), Minus: far()})
		a.secret.Share, a.x.Secret.Share = api.Point{X: math.MaxUint64}, api.Point{Y: math.MaxUint64}
		a.header.Points = make([]api.Point, 300)
		a.bytes[r.Intn(len(a.bytes))] = byte(r.Intn(256))
	}
}

// memory returns copies of all memory of the arguments.
func memory(a arguments) []any {
	return []any{
		whole(a.revoked), whole(a.data), whole(a.bytes), whole(a.secret.Labels), whole(a.x.Secret.Labels),
		whole(a.header.Items), whole(a.header.Points),
		whole(a.packet.Head.Items), whole(a.packet.Head.Points), whole(a.packet.Data),
	}
}

func TestRules(t *testing.T) { // R2, R3, R7
	r := rand.New(rand.NewSource(1))
	for i := range 3000 {
		a := someArguments(t, r, i%2 == 1)
		before := memory(a)
		for name, call := range calls() {
			first, e := call(a)
			if e != api.OK && !isEmpty(first) {
				t.Fatalf("%s: %v with %v", name, first, e)
			}
			if i%2 == 0 && e != api.OK && name != "Resolve" {
				t.Fatalf("%s: %v with %+v", name, e, a)
			}
			// What a caller does with one result is not seen in the next.
			want := deepCopy(first)
			overwrite(first)
			if !reflect.DeepEqual(before, memory(a)) {
				t.Fatalf("%s: arguments were changed, or are shared: %+v", name, a)
			}
			second, again := call(a)
			if e != again || !reflect.DeepEqual(second, want) {
				t.Fatalf("%s: %v, %v, and then %v, %v", name, want, e, second, again)
			}
		}
	}
}

func copyOfHeader(h api.Header) api.Header {
	h.Items, h.Points = slices.Clone(h.Items), slices.Clone(h.Points)
	return h
}

// deepCopy returns a copy of a result that shares no memory with it.
func deepCopy(result any) any {
	switch x := result.(type) {
	case []int:
		return slices.Clone(x)
	case []byte:
		return slices.Clone(x)
	case api.Secret:
		x.Labels = slices.Clone(x.Labels)
		return x
	case api.Header:
		return copyOfHeader(x)
	case api.Packet:
		x.Head, x.Data = copyOfHeader(x.Head), slices.Clone(x.Data)
		return x
	case api.Receiver:
		x.Secret.Labels = slices.Clone(x.Secret.Labels)
		return x
	case taking:
		x.x.Secret.Labels, x.data = slices.Clone(x.x.Secret.Labels), slices.Clone(x.data)
		return x
	}
	return result
}

// wipe fills the memory of a list, also that behind its length.
func wipe[T any](l []T, with T) {
	l = l[:cap(l)]
	for i := range l {
		l[i] = with
	}
}

// overwrite fills the memory of a result.
func overwrite(result any) {
	item, point, label := api.Item{Subset: api.Subset{Node: 77}}, api.Point{X: 77}, api.Label{Node: 77}
	switch x := result.(type) {
	case []int:
		wipe(x, 77)
	case []byte:
		wipe(x, 77)
	case api.Secret:
		wipe(x.Labels, label)
	case api.Header:
		wipe(x.Items, item)
		wipe(x.Points, point)
	case api.Packet:
		wipe(x.Head.Items, item)
		wipe(x.Head.Points, point)
		wipe(x.Data, 77)
	case api.Receiver:
		wipe(x.Secret.Labels, label)
	case taking:
		wipe(x.x.Secret.Labels, label)
		wipe(x.data, 77)
	}
}

func TestNilIsEmpty(t *testing.T) { // R4
	a, root := example(), api.Key{3}
	for _, s := range kinds() {
		for _, revoked := range [][]int{nil, {}} {
			p := must[api.Packet](t)(epoch.Head(root, s, 0, revoked))
			p.Data = []byte{}
			if s.Kind == api.SchemePolynomial {
				p.Head.Items = []api.Item{}
			} else {
				p.Head.Points = []api.Point{}
			}
			x, data, e := epoch.Take(s, a, newReceiver(t, root, s, a, 0, 0), p, 0)
			if e != api.OK || len(data) > 0 || !x.Slots[0].Full {
				t.Errorf("%+v: %+v, %x, %v", s, x, data, e)
			}
		}
	}
	for _, data := range [][]byte{nil, {}} {
		p := must[api.Packet](t)(epoch.Content(root, a, 0, 0, data))
		p.Head = api.Header{Items: []api.Item{}, Points: []api.Point{}}
		x := api.Receiver{Slots: [2]api.Slot{{Full: true, Key: session(root, 0)}}}
		x.Secret.Labels = []api.Label{}
		if y, got, e := epoch.Take(kinds()[0], a, x, p, 0); e != api.OK || len(got) > 0 || !isSameReceiver(x, y) {
			t.Errorf("%+v, %x, %v", y, got, e)
		}
	}
}
