package epoch_test

import (
	"bytes"
	"math"
	"math/rand"
	"slices"
	"testing"

	"headend/api"
	"headend/cipher"
	"headend/epoch"
)

func TestNew(t *testing.T) { // P5.7
	r := rand.New(rand.NewSource(1))
	for _, s := range schemes() {
		for _, a := range airs() {
			root, u := random(r), r.Intn(1<<s.Depth)
			secret := must[api.Secret](t)(epoch.Secret(root, s, u))
			for _, ahead := range []int{0, -a.Drift, a.Drift, r.Intn(2*a.Drift+1) - a.Drift} {
				x, e := epoch.New(root, s, a, u, ahead)
				if e != api.OK || !isSameReceiver(x, api.Receiver{Secret: secret, Ahead: ahead}) || epoch.Check(s, a, x) != api.OK {
					t.Errorf("%+v, %+v, %d, %d: %+v, %v", s, a, u, ahead, x, e)
				}
			}
		}
	}
}

func TestNewErrors(t *testing.T) { // P5.7, R1, R2, R5
	for _, s := range schemes() {
		for _, a := range airs() {
			check := func(u, ahead int) {
				t.Helper()
				if x, e := epoch.New(api.Key{1}, s, a, u, ahead); e != api.ErrArg || !isSameReceiver(x, api.Receiver{}) {
					t.Errorf("%+v, %+v, %d, %d: %+v, %v", s, a, u, ahead, x, e)
				}
			}
			for _, far := range append(wildClocks(), a.Drift+1, -a.Drift-1) {
				check(0, far)
				check(-1, far)
			}
			for _, far := range append(wild(), 1<<s.Depth) {
				check(far, 0)
			}
		}
		for _, a := range wrongAirs() {
			for _, n := range append(wild(), 0) {
				if x, e := epoch.New(api.Key{1}, s, a, n, n); e != api.ErrAir || !isSameReceiver(x, api.Receiver{}) {
					t.Errorf("%+v, %+v, %d: %+v, %v", s, a, n, x, e)
				}
			}
		}
	}
}

func TestCheck(t *testing.T) { // P5.7, R6
	s, a := scheme(api.SchemeDifference, 3), example()
	for _, x := range []api.Receiver{
		{},
		{Ahead: 6},
		{Ahead: -6},
		{Secret: api.Secret{Receiver: 7}},
		{Secret: api.Secret{Labels: []api.Label{{Node: -1, Minus: 1 << 40}}, Share: api.Point{X: math.MaxUint64}}},
		{Secret: api.Secret{Labels: make([]api.Label, 1000)}},
		{Slots: [2]api.Slot{{Full: true}}},
		{Slots: [2]api.Slot{{Full: true, Key: api.Key{1}}, {Full: true, Epoch: 1}}},
		{Slots: [2]api.Slot{{Full: true, Epoch: api.MaxTick}, {Full: true, Epoch: api.MaxTick - 1}}},
		{Slots: [2]api.Slot{{}, {Full: true, Epoch: 99, Key: api.Key{9}}}},
	} {
		if e := epoch.Check(s, a, x); e != api.OK {
			t.Errorf("%+v: %v", x, e)
		}
	}
}

// wrongReceivers returns receivers that are not valid for the schedule of the examples and eight receivers.
func wrongReceivers() []api.Receiver {
	l := []api.Receiver{
		{Ahead: 7},
		{Ahead: -7},
		{Secret: api.Secret{Receiver: 8}},
		{Slots: [2]api.Slot{{Key: api.Key{15: 1}}}},
		{Slots: [2]api.Slot{{Epoch: 2}}},
		{Slots: [2]api.Slot{{}, {Epoch: 1}}},
		{Slots: [2]api.Slot{{}, {Key: api.Key{1}}}},
		{Slots: [2]api.Slot{{}, {Full: true}}},
		{Slots: [2]api.Slot{{Full: true, Epoch: 1}}},
		{Slots: [2]api.Slot{{Full: true, Epoch: 1}, {Full: true, Epoch: 2}}},
		{Slots: [2]api.Slot{{}, {Full: true, Epoch: api.MaxTick}}},
		{Slots: [2]api.Slot{{}, {Full: true, Epoch: api.MaxTick + 1}}},
		{Slots: [2]api.Slot{{Full: true, Epoch: api.MaxTick + 2}}},
	}
	for _, far := range wildClocks() {
		l = append(l, api.Receiver{Ahead: far})
	}
	for _, far := range wild() {
		l = append(l,
			api.Receiver{Secret: api.Secret{Receiver: far}},
			api.Receiver{Slots: [2]api.Slot{{Full: true, Epoch: far}}},
			api.Receiver{Slots: [2]api.Slot{{}, {Full: true, Epoch: far}}},
			api.Receiver{Slots: [2]api.Slot{{Epoch: far}}},
		)
	}
	return l
}

func TestCheckErrors(t *testing.T) { // P5.7, R1, R2, R5
	a := example()
	for kind := uint8(1); kind <= 4; kind++ {
		s := scheme(kind, 3)
		if kind == 4 {
			s = polyScheme(3, 3)
		}
		for _, x := range wrongReceivers() {
			if e := epoch.Check(s, a, x); e != api.ErrBad {
				t.Errorf("%+v: %v", x, e)
			}
			for _, air := range wrongAirs() {
				if e := epoch.Check(s, air, x); e != api.ErrAir {
					t.Errorf("%+v, %+v: %v", air, x, e)
				}
				if y, data, e := epoch.Take(s, air, x, api.Packet{}, -1); e != api.ErrAir || !isSameReceiver(y, api.Receiver{}) || len(data) > 0 {
					t.Errorf("%+v, %+v: %+v, %x, %v", air, x, y, data, e)
				}
			}
			for _, p := range []api.Packet{{}, {Kind: 1}, {Kind: 2}} {
				for _, tick := range []int{-1, 0} {
					if y, data, e := epoch.Take(s, a, x, p, tick); e != api.ErrBad || !isSameReceiver(y, api.Receiver{}) || len(data) > 0 {
						t.Errorf("%+v: %+v, %x, %v", x, y, data, e)
					}
				}
			}
		}
	}
	for depth := range api.MaxDepth + 1 {
		x := api.Receiver{Secret: api.Secret{Receiver: 1<<depth - 1}}
		if e := epoch.Check(scheme(1, depth), a, x); e != api.OK {
			t.Error(depth, e)
		}
		x.Secret.Receiver++
		if e := epoch.Check(scheme(1, depth), a, x); e != api.ErrBad {
			t.Error(depth, e)
		}
	}
}

// taken follows the definition of how a receiver takes a packet.
func taken(s api.Scheme, a api.Air, x api.Receiver, p api.Packet, tick int) (api.Receiver, []byte, api.Errno) {
	ticks := sentTicks(a, tick+x.Ahead)
	if p.Kind == 1 {
		if !slices.ContainsFunc(ticks, func(sent int) bool { return isDue(a, p.Epoch, sent) }) {
			return api.Receiver{}, nil, api.ErrTime
		}
		slot := &x.Slots[p.Epoch%2]
		if slot.Full && slot.Epoch >= p.Epoch {
			return api.Receiver{}, nil, api.ErrOld
		}
		k, e := epoch.Open(s, x.Secret, p.Head)
		if e != api.OK {
			return api.Receiver{}, nil, e
		}
		if signHead(k, p).Mac != p.Mac {
			return api.Receiver{}, nil, api.ErrCheck
		}
		*slot = api.Slot{Full: true, Epoch: p.Epoch, Key: k}
		return x, nil, api.OK
	}
	i := slices.IndexFunc(ticks, func(sent int) bool { return sent/a.Word%4 == int(p.Low) })
	if i < 0 {
		return api.Receiver{}, nil, api.ErrTime
	}
	slot := x.Slots[ticks[i]/a.Epoch%2]
	if !slot.Full || slot.Epoch != ticks[i]/a.Epoch {
		return api.Receiver{}, nil, api.ErrNone
	}
	k := word(slot.Key, ticks[i]/a.Word)
	if mac(k, bodyOf(p)) != p.Mac {
		return api.Receiver{}, nil, api.ErrCheck
	}
	return x, stream(k, p.Number, p.Data), api.OK
}

// somePacket returns a packet of the operator, sent near a tick, or one that was changed.
func somePacket(t *testing.T, r *rand.Rand, root api.Key, s api.Scheme, a api.Air, tick int) api.Packet {
	t.Helper()
	near := max(0, tick+r.Intn(8*a.Word)-4*a.Word)
	p := contentOf(root, a, near, r.Uint64(), randomBytes(r, r.Intn(40)))
	if r.Intn(2) == 0 {
		p = headOf(t, root, s, max(0, tick/a.Epoch+r.Intn(5)-2), someList(r, s))
	}
	if r.Intn(4) > 0 {
		return p
	}
	switch r.Intn(6) {
	case 0:
		p.Mac[r.Intn(16)] ^= 4
	case 1:
		p.Head.Check[r.Intn(16)] ^= 1
	case 2:
		p.Low = uint8(r.Intn(4))
	case 3:
		p.Number = 3
	case 4:
		p.Epoch = (p.Epoch + 2) * int(2-p.Kind)
	default:
		p.Head.Base = 1
	}
	return p
}

func TestTake(t *testing.T) { // P5.7
	r := rand.New(rand.NewSource(2))
	all, airs := schemes(), airs()
	counts := map[api.Errno]int{}
	for range 30000 {
		s, a := all[r.Intn(len(all))], airs[r.Intn(len(airs))]
		root, tick := random(r), r.Intn(4*a.Epoch)
		x := newReceiver(t, root, s, a, r.Intn(1<<s.Depth), r.Intn(2*a.Drift+1)-a.Drift)
		for i := range x.Slots {
			n := (tick/a.Epoch/2+r.Intn(3)-1)*2 + i
			if n >= 0 && r.Intn(3) > 0 {
				x.Slots[i] = api.Slot{Full: true, Epoch: n, Key: session(root, n)}
			}
		}
		p := somePacket(t, r, root, s, a, tick)
		want, wantData, wantE := taken(s, a, x, p, tick)
		if epoch.CheckPacket(p) != api.OK {
			want, wantData, wantE = api.Receiver{}, nil, api.ErrBad
		}
		got, data, e := epoch.Take(s, a, x, p, tick)
		if e != wantE || !bytes.Equal(data, wantData) || !isSameReceiver(got, want) {
			t.Fatalf("%+v, %+v, %+v, %+v, %d: %+v, %x, %v, want %+v, %x, %v", s, a, x, p, tick, got, data, e, want, wantData, wantE)
		}
		counts[e]++
	}
	for _, e := range []api.Errno{api.OK, api.ErrTime, api.ErrOld, api.ErrNone, api.ErrCheck, api.ErrBad} {
		if counts[e] < 100 {
			t.Errorf("%v only %d times", e, counts[e])
		}
	}
}

// desk is a receiver of the examples' schedule, with what its calls need.
type desk struct {
	t    *testing.T
	s    api.Scheme
	a    api.Air
	root api.Key
	x    api.Receiver
}

func newDesk(t *testing.T, s api.Scheme) *desk {
	d := &desk{t: t, s: s, a: example(), root: api.Key{5, 6, 7}}
	d.x = newReceiver(t, d.root, s, d.a, 1, 0)
	return d
}

// take takes a packet, which is to have some error, and keeps the receiver if there is none.
func (d *desk) take(p api.Packet, tick int, want api.Errno) []byte {
	d.t.Helper()
	x, data, e := epoch.Take(d.s, d.a, d.x, p, tick)
	if e != want {
		d.t.Errorf("kind %d of epoch %d at %d: %v, want %v", p.Kind, p.Epoch, tick, e, want)
	}
	if e == api.OK {
		d.x = x
	} else if !isSameReceiver(x, api.Receiver{}) || len(data) > 0 {
		d.t.Errorf("%+v, %x beside the error %v", x, data, e)
	}
	return data
}

func (d *desk) head(e int, revoked ...int) api.Packet {
	return headOf(d.t, d.root, d.s, e, revoked)
}

func (d *desk) content(tick int) api.Packet {
	return contentOf(d.root, d.a, tick, uint64(tick), []byte("show"))
}

// kinds returns a scheme of each kind, for four receivers.
func kinds() []api.Scheme {
	return []api.Scheme{scheme(1, 2), scheme(2, 2), scheme(3, 2), polyScheme(2, 2)}
}

func TestTakeHeaders(t *testing.T) { // P5.7, R1
	for _, s := range kinds() {
		d := newDesk(t, s)
		d.take(d.head(1), 73, api.ErrTime)
		d.take(d.head(1, 1), 74, api.ErrNone)
		d.take(d.head(1), 74, api.OK)
		if d.x.Slots != [2]api.Slot{{}, {Full: true, Epoch: 1, Key: session(d.root, 1)}} {
			t.Errorf("%+v", d.x.Slots)
		}
		d.take(d.head(1), 74, api.ErrOld)
		d.take(d.head(0), 107, api.OK)
		d.take(d.head(0), 107, api.ErrOld)
		d.take(d.head(0), 108, api.ErrTime)
		d.take(d.head(2), 199, api.OK)
		if d.x.Slots != [2]api.Slot{{Full: true, Epoch: 2, Key: session(d.root, 2)}, {Full: true, Epoch: 1, Key: session(d.root, 1)}} {
			t.Errorf("%+v", d.x.Slots)
		}
		// An earlier epoch of the same parity is old, but first of all too late.
		d.take(d.head(0), 199, api.ErrTime)
		d.x.Slots[1].Epoch = 3
		d.take(d.head(1), 199, api.ErrOld)
		d.take(d.head(1), 300, api.ErrTime)
	}
}

// Of several errors of a header packet the first one counts.
func TestOrderOfHeaderErrors(t *testing.T) { // P5.7, R1
	for _, s := range kinds() {
		d := newDesk(t, s)
		bad := signHead(session(d.root, 1), api.Packet{Kind: 1, Epoch: 1, Head: api.Header{Base: 1, Items: make([]api.Item, 1)}})
		unsigned, secretly := d.head(1), d.head(1, 1)
		unsigned.Mac[0] ^= 1
		secretly.Mac[0] ^= 1
		d.take(bad, 100, api.ErrBad)
		d.take(secretly, 100, api.ErrNone)
		d.take(unsigned, 100, api.ErrCheck)
		// The header of another epoch opens, but its packet is not signed for this one.
		other := d.head(3)
		other.Epoch = 1
		d.take(other, 100, api.ErrCheck)
		d.take(signHead(session(d.root, 3), other), 100, api.OK)
		if d.x.Slots[1] != (api.Slot{Full: true, Epoch: 1, Key: session(d.root, 3)}) {
			t.Errorf("%+v", d.x.Slots)
		}
		for _, p := range []api.Packet{bad, unsigned, secretly} {
			d.take(p, 100, api.ErrOld)
			d.take(p, 20, api.ErrTime)
			d.take(p, 208, api.ErrTime)
			d.take(p, -1, api.ErrArg)
			d.take(p, api.MaxTick+1, api.ErrArg)
			p.Low = 1
			d.take(p, -1, api.ErrBad)
		}
	}
}

func TestTakeContent(t *testing.T) { // P5.7, R1
	for _, s := range kinds() {
		d := newDesk(t, s)
		d.take(d.content(95), 101, api.ErrNone)
		d.take(d.head(1), 90, api.OK)
		d.take(d.content(95), 101, api.ErrNone)
		d.take(d.head(0), 90, api.OK)
		d.x.Ahead = 6
		before := d.x
		if data := d.take(d.content(95), 95, api.OK); string(data) != "show" {
			t.Errorf("%q", data)
		}
		if data := d.take(d.content(106), 108, api.OK); string(data) != "show" {
			t.Errorf("%q", data)
		}
		if !isSameReceiver(before, d.x) {
			t.Errorf("%+v, %+v", before, d.x)
		}
		none := d.content(95)
		none.Low = 3
		d.take(none, 95, api.ErrTime)
		for _, i := range []int{0, 15} {
			wrong := d.content(95)
			wrong.Mac[i] ^= 1
			d.take(wrong, 95, api.ErrCheck)
		}
		changed, numbered := d.content(95), d.content(95)
		changed.Data[3] ^= 1
		numbered.Number++
		d.take(changed, 95, api.ErrCheck)
		d.take(numbered, 95, api.ErrCheck)
		d.x.Slots[0].Epoch = 2
		d.take(changed, 95, api.ErrNone)
		d.take(none, 95, api.ErrTime)
		d.take(none, -1, api.ErrArg)
		none.Data = make([]byte, 257)
		d.take(none, -1, api.ErrBad)
	}
}

// A content packet whose MAC is right under the control word is taken, whoever made it.
func TestTakeAnyContent(t *testing.T) { // P5.7, R6
	r := rand.New(rand.NewSource(3))
	d := newDesk(t, scheme(2, 2))
	d.x.Slots[0] = api.Slot{Full: true, Key: random(r)}
	for _, size := range []int{0, 1, 16, 255, 256} {
		k := word(d.x.Slots[0].Key, 5)
		p := api.Packet{Kind: 2, Low: 1, Number: r.Uint64(), Data: randomBytes(r, size)}
		p.Mac = mac(k, bodyOf(p))
		if data := d.take(p, 55, api.OK); !bytes.Equal(data, stream(k, p.Number, p.Data)) {
			t.Errorf("%x", data)
		}
	}
}

// A session key that somebody else chose is found, and is in the slot.
func TestTakeAnyHeader(t *testing.T) { // P5.7, R6
	d := newDesk(t, scheme(1, 2))
	k, label := api.Key{8, 8}, d.x.Secret.Labels[1]
	item := api.Item{Subset: api.Subset{Node: label.Node}, Box: cipher.Encrypt(label.Key, k)}
	p := api.Packet{Kind: 1, Epoch: 4, Head: api.Header{Items: []api.Item{item}, Check: cipher.Derive(k, 53, 0)}}
	d.take(p, 400, api.ErrCheck)
	d.take(signHead(k, p), 400, api.OK)
	if d.x.Slots != [2]api.Slot{{Full: true, Epoch: 4, Key: k}} {
		t.Errorf("%+v", d.x.Slots)
	}
}

func TestTakeAtTheLastTicks(t *testing.T) { // P5.7, R5
	a := api.Air{Epoch: 1, Word: 1, Early: 1, Drift: 1}
	for _, s := range kinds() {
		d := newDesk(t, s)
		d.a = a
		d.take(d.head(api.MaxTick), api.MaxTick, api.OK)
		d.take(d.head(api.MaxTick-1), api.MaxTick, api.OK)
		for _, tick := range []int{api.MaxTick, api.MaxTick - 1} {
			if data := d.take(d.content(tick), api.MaxTick, api.OK); string(data) != "show" {
				t.Errorf("%d: %q", tick, data)
			}
		}
		// The clock is past the last tick.
		d.x.Ahead = 1
		if data := d.take(d.content(api.MaxTick), api.MaxTick, api.OK); string(data) != "show" {
			t.Errorf("%q", data)
		}
		after := api.Packet{Kind: 2, Low: uint8((api.MaxTick + 1) % 4)}
		d.take(after, api.MaxTick, api.ErrNone)
		for _, tick := range wild() {
			d.take(d.content(5), tick, api.ErrArg)
			d.take(d.head(5), tick, api.ErrArg)
		}
	}
}

func TestTakeBeforeTheFirstTick(t *testing.T) { // P5.7
	d := newDesk(t, scheme(3, 2))
	d.x.Ahead = -6
	d.take(d.head(0), 0, api.OK)
	if data := d.take(d.content(0), 0, api.OK); string(data) != "show" {
		t.Errorf("%q", data)
	}
	for low := range uint8(4) {
		want := api.ErrTime
		if low == 0 {
			want = api.ErrCheck
		}
		d.take(api.Packet{Kind: 2, Low: low}, 0, want)
	}
}
