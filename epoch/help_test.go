package epoch_test

import (
	"encoding/binary"
	"encoding/hex"
	"math"
	"math/rand"
	"slices"
	"testing"

	"headend/api"
	"headend/cipher"
	"headend/cover"
	"headend/epoch"
	"headend/poly"
)

// example is the schedule of the chapter's examples.
func example() api.Air { return api.Air{Epoch: 100, Word: 10, Early: 20, Drift: 6, Delay: 2} }

// airs returns schedules that are valid, with those at the edges.
func airs() []api.Air {
	return []api.Air{
		example(),
		{Epoch: 8, Word: 4, Early: 2, Drift: 1, Delay: 1},
		{Epoch: 1, Word: 1},
		{Epoch: 1, Word: 1, Early: 1},
		{Epoch: 1, Word: 1, Drift: 1},
		{Epoch: 1, Word: 1, Delay: 1},
		{Epoch: 1, Word: 1, Drift: 1, Early: 1},
		{Epoch: 2, Word: 1, Delay: 2},
		{Epoch: 2, Word: 2, Delay: 1, Drift: 2},
		{Epoch: 12, Word: 4, Delay: 11, Early: 1},
		{Epoch: 12, Word: 4, Delay: 1, Drift: 5, Early: 11},
		{Epoch: 1000, Word: 1, Early: 1000, Drift: 1},
		{Epoch: 1000, Word: 1000, Early: 500, Drift: 1250, Delay: 499},
		{Epoch: 1000 * 1000, Word: 1000, Early: 1000*1000 - 2999, Delay: 2999},
		{Epoch: 21, Word: 7, Early: 3, Drift: 3, Delay: 14},
	}
}

// isAir follows the definition, with numbers that do not overflow.
func isAir(a api.Air) bool {
	e, w, early, drift, delay := float64(a.Epoch), float64(a.Word), float64(a.Early), float64(a.Drift), float64(a.Delay)
	return a.Word >= 1 && a.Word <= 1000 && a.Epoch%a.Word == 0 && e >= w && e <= 1000*w &&
		early >= 0 && drift >= 0 && delay >= 0 && 2*drift+delay < 3*w && early+delay <= e
}

// wrongAirs returns schedules that are not valid.
func wrongAirs() []api.Air {
	l := []api.Air{
		{},
		{Epoch: 100, Word: 10, Early: 20, Drift: 15, Delay: 2},
		{Epoch: 100, Word: 10, Early: 20, Drift: 15},
		{Epoch: 100, Word: 10, Early: 20, Drift: 14, Delay: 2},
		{Epoch: 100, Word: 10, Early: 20, Delay: 30},
		{Epoch: 100, Word: 10, Early: 99, Delay: 2},
		{Epoch: 100, Word: 10, Early: 101},
		{Epoch: 20, Word: 10, Delay: 21},
		{Epoch: 105, Word: 10},
		{Epoch: 10010, Word: 10},
		{Epoch: 5, Word: 10},
		{Epoch: 0, Word: 10},
		{Epoch: 0, Word: 1},
		{Epoch: 1001, Word: 1001},
		{Epoch: 1001, Word: 1},
		{Epoch: -100, Word: 10},
		{Epoch: -100, Word: -10},
		{Epoch: 100, Word: -10},
		{Epoch: 100, Word: 0},
		{Epoch: 100, Word: 10, Early: math.MaxInt, Delay: 2},
		{Epoch: 100, Word: 10, Early: math.MaxInt, Delay: math.MaxInt},
		{Epoch: 100, Word: 10, Early: 2, Delay: math.MaxInt},
		{Epoch: 100, Word: 10, Early: 2, Drift: math.MaxInt, Delay: 3},
		{Epoch: 100, Word: 10, Early: 2, Drift: 1 << 62, Delay: 3},
		{Epoch: 100, Word: 10, Early: 2, Drift: 1<<62 + 1, Delay: 3},
		{Epoch: 1 << 62, Word: 1 << 62},
		{Epoch: math.MinInt, Word: -1},
	}
	for _, n := range []int{-1, -2, -1000, math.MinInt, math.MinInt + 1, math.MinInt32, 1 << 32, 1<<32 + 10, 1 << 62, math.MaxInt} {
		for i := range 5 {
			a := example()
			*[]*int{&a.Epoch, &a.Word, &a.Early, &a.Drift, &a.Delay}[i] = n
			l = append(l, a)
		}
	}
	return l
}

// wild returns numbers that are no ticks, no epochs, and no numbers of receivers.
func wild() []int {
	return []int{
		-1, -2, -64, math.MinInt, math.MinInt + 1, math.MinInt32, -1 << 33,
		api.MaxTick + 1, api.MaxTick + 2, 1 << 41, math.MaxInt, math.MaxInt - 1, 1 << 62, 1<<62 + 1,
	}
}

// wildClocks returns numbers that no clock may be ahead.
func wildClocks() []int {
	return slices.DeleteFunc(wild(), func(n int) bool { return n >= -1500 && n <= 1500 })
}

// smallGroup has room for four receivers and the degree 6.
func smallGroup() api.Group { return api.Group{P: 23, Q: 11, G: 2} }

func scheme(kind uint8, depth int) api.Scheme { return api.Scheme{Kind: kind, Depth: depth} }

func polyScheme(depth, degree int) api.Scheme {
	s := api.Scheme{Kind: api.SchemePolynomial, Depth: depth, Degree: degree, Group: smallGroup()}
	if 1<<depth+degree >= 11 {
		s.Group = api.Group{P: 1048343, Q: 524171, G: 1048338}
	}
	return s
}

// schemes returns schemes of all kinds and depths.
func schemes() []api.Scheme {
	var l []api.Scheme
	for depth := range api.MaxDepth + 1 {
		for kind := api.SchemeSubtree; kind <= api.SchemeLayered; kind++ {
			l = append(l, scheme(kind, depth))
		}
		for _, degree := range []int{1, 2, 8} {
			l = append(l, polyScheme(depth, degree))
		}
	}
	return l
}

// wrongScheme is a scheme that is not valid, and its error.
type wrongScheme struct {
	s api.Scheme
	e api.Errno
}

func wrongSchemes() []wrongScheme {
	l := []wrongScheme{
		{api.Scheme{}, api.ErrArg},
		{api.Scheme{Kind: 0, Depth: 3}, api.ErrArg},
		{api.Scheme{Kind: 5, Depth: 3}, api.ErrArg},
		{api.Scheme{Kind: 5, Depth: 2, Degree: 2, Group: smallGroup()}, api.ErrArg},
		{api.Scheme{Kind: 6, Depth: -1}, api.ErrArg},
		{api.Scheme{Kind: 128, Depth: 3}, api.ErrArg},
		{api.Scheme{Kind: 255, Depth: 99}, api.ErrArg},
		{api.Scheme{Kind: 4, Depth: 3}, api.ErrScheme},
		{api.Scheme{Kind: 4, Depth: 3, Degree: 3, Group: smallGroup()}, api.ErrScheme},
		{api.Scheme{Kind: 4, Depth: 2, Degree: 9, Group: api.Group{P: 1048343, Q: 524171, G: 1048338}}, api.ErrScheme},
		{api.Scheme{Kind: 4, Depth: 7, Degree: 2, Group: api.Group{P: 1048343, Q: 524171, G: 1048338}}, api.ErrScheme},
		{api.Scheme{Kind: 4, Depth: 2, Degree: 2, Group: api.Group{P: 23, Q: 11, G: 5}}, api.ErrScheme},
	}
	for kind := api.SchemeSubtree; kind <= api.SchemeLayered; kind++ {
		for _, depth := range []int{-1, 7, 64, math.MaxInt, math.MinInt} {
			l = append(l, wrongScheme{scheme(kind, depth), api.ErrScheme})
		}
		l = append(l, wrongScheme{api.Scheme{Kind: kind, Depth: 2, Degree: 2, Group: smallGroup()}, api.ErrScheme})
	}
	return l
}

func block(t *testing.T, s string) api.Key {
	t.Helper()
	b, err := hex.DecodeString(s)
	if err != nil || len(b) != 16 {
		t.Fatal("no block:", s)
	}
	return api.Key(b)
}

func random(r *rand.Rand) api.Key {
	var k api.Key
	r.Read(k[:])
	return k
}

func randomBytes(r *rand.Rand, n int) []byte {
	b := make([]byte, n)
	r.Read(b)
	return b
}

// The root keys of the fixed values.
func upKey(t *testing.T) api.Key   { return block(t, "ffeeddccbbaa99887766554433221100") }
func downKey(t *testing.T) api.Key { return block(t, "0f0e0d0c0b0a09080706050403020100") }

// most returns how many receivers a header of a scheme can leave out.
func most(s api.Scheme) int {
	if s.Kind == api.SchemePolynomial {
		return min(s.Degree, 1<<s.Depth)
	}
	return 1 << s.Depth
}

// someReceivers returns a list of at most n receivers of a scheme.
func someReceivers(r *rand.Rand, s api.Scheme, n int) []int {
	l := r.Perm(1 << s.Depth)
	l = l[:min(len(l), n)]
	slices.Sort(l)
	return l
}

// someList returns a list of receivers that a header of a scheme can leave out.
func someList(r *rand.Rand, s api.Scheme) []int { return someReceivers(r, s, r.Intn(most(s)+1)) }

func isSameHeader(a, b api.Header) bool {
	return slices.Equal(a.Items, b.Items) && slices.Equal(a.Points, b.Points) &&
		a.Base == b.Base && a.Box == b.Box && a.Check == b.Check
}

func isSamePacket(a, b api.Packet) bool {
	return a.Kind == b.Kind && a.Epoch == b.Epoch && isSameHeader(a.Head, b.Head) && a.Low == b.Low &&
		a.Number == b.Number && slices.Equal(a.Data, b.Data) && a.Mac == b.Mac
}

func isSameSecret(a, b api.Secret) bool {
	return a.Receiver == b.Receiver && slices.Equal(a.Labels, b.Labels) && a.Share == b.Share
}

func isSameReceiver(a, b api.Receiver) bool {
	return isSameSecret(a.Secret, b.Secret) && a.Ahead == b.Ahead && a.Slots == b.Slots
}

// must returns the result of a call that has no error.
func must[T any](t *testing.T) func(result T, e api.Errno) T {
	t.Helper()
	return func(result T, e api.Errno) T {
		t.Helper()
		if e != api.OK {
			t.Fatal("unexpected error:", e)
		}
		return result
	}
}

// The functions below follow the chapter's terms.

func session(root api.Key, e int) api.Key { return cipher.Derive(root, 50, uint64(e)) }

func word(session api.Key, period int) api.Key { return cipher.Derive(session, 51, uint64(period)) }

func mac(k api.Key, b []byte) api.Key {
	m, e := cipher.Mac(k, b)
	if e != api.OK {
		panic(e)
	}
	return m
}

func stream(k api.Key, n uint64, b []byte) []byte {
	s, e := cipher.Stream(k, n, b)
	if e != api.OK {
		panic(e)
	}
	return s
}

// bodyOf returns the bytes of a packet without Mac.
func bodyOf(p api.Packet) []byte {
	b := []byte{p.Kind}
	if p.Kind == 2 {
		b = append(b, p.Low)
		b = binary.BigEndian.AppendUint64(b, p.Number)
		b = binary.BigEndian.AppendUint16(b, uint16(len(p.Data)))
		return append(b, p.Data...)
	}
	b = binary.BigEndian.AppendUint64(b, uint64(p.Epoch))
	b = append(b, byte(len(p.Head.Items)))
	for _, item := range p.Head.Items {
		b = append(b, byte(item.Subset.Node), byte(item.Subset.Minus))
		b = append(b, item.Box[:]...)
	}
	b = binary.BigEndian.AppendUint64(b, p.Head.Base)
	b = append(b, byte(len(p.Head.Points)))
	for _, x := range p.Head.Points {
		b = binary.BigEndian.AppendUint64(b, x.X)
		b = binary.BigEndian.AppendUint64(b, x.Y)
	}
	b = append(b, p.Head.Box[:]...)
	return append(b, p.Head.Check[:]...)
}

func bytesOf(p api.Packet) []byte { return append(bodyOf(p), p.Mac[:]...) }

// sealed returns the header in which the session key of an epoch is sealed.
func sealed(t *testing.T, root api.Key, s api.Scheme, e int, revoked []int) api.Header {
	t.Helper()
	if s.Kind == 4 {
		return must[api.Header](t)(poly.Seal(root, s, revoked, session(root, e), uint64(e)))
	}
	l := must[[]api.Subset](t)(cover.Cover(s, revoked))
	return must[api.Header](t)(cover.Seal(root, s, l, session(root, e)))
}

func signHead(k api.Key, p api.Packet) api.Packet {
	p.Mac = mac(cipher.Derive(k, 52, uint64(p.Epoch)), bodyOf(p))
	return p
}

func headOf(t *testing.T, root api.Key, s api.Scheme, e int, revoked []int) api.Packet {
	t.Helper()
	return signHead(session(root, e), api.Packet{Kind: 1, Epoch: e, Head: sealed(t, root, s, e, revoked)})
}

func contentOf(root api.Key, a api.Air, tick int, number uint64, data []byte) api.Packet {
	period := tick / a.Word
	k := word(session(root, tick/a.Epoch), period)
	p := api.Packet{Kind: 2, Low: uint8(period % 4), Number: number, Data: stream(k, number, data)}
	p.Mac = mac(k, bodyOf(p))
	return p
}

func newReceiver(t *testing.T, root api.Key, s api.Scheme, a api.Air, u, ahead int) api.Receiver {
	t.Helper()
	return must[api.Receiver](t)(epoch.New(root, s, a, u, ahead))
}
