package epoch_test

import (
	"bytes"
	"math/rand"
	"slices"
	"testing"

	"headend/api"
	"headend/epoch"
)

// sent is a packet on its way.
type sent struct {
	packet  api.Packet
	epoch   int
	data    []byte
	arrives int
}

// show is an operator's channel: what it is about, and the list of each epoch.
type show struct {
	root  api.Key
	s     api.Scheme
	a     api.Air
	lists map[int][]int
}

// someShow returns a channel whose lists differ from epoch to epoch.
func someShow(r *rand.Rand, first, last int) show {
	all, airs := schemes(), airs()
	w := show{root: random(r), s: all[r.Intn(len(all))], a: airs[r.Intn(len(airs))], lists: map[int][]int{}}
	// Small trees and short epochs, so that much happens to each receiver.
	w.s.Depth = min(w.s.Depth, 3)
	for w.a.Epoch > 120 {
		w.a = airs[r.Intn(len(airs))]
	}
	for e := first; e <= last; e++ {
		w.lists[e] = someList(r, w.s)
	}
	return w
}

// send returns the packets of some epochs: each on its way as long as is allowed, or lost, or twice, in the order in which they arrive.
func (w show) send(t *testing.T, r *rand.Rand, first, last int) []sent {
	t.Helper()
	var l []sent
	add := func(p api.Packet, e, tick int, data []byte) {
		for range []int{0, 1, 1, 2}[r.Intn(4)] {
			l = append(l, sent{p, e, data, tick + r.Intn(w.a.Delay+1)})
		}
	}
	for tick := max(0, first*w.a.Epoch-w.a.Early); tick < (last+1)*w.a.Epoch; tick++ {
		for _, e := range must[[]int](t)(epoch.Due(w.a, tick)) {
			if e >= first && e <= last && r.Intn(w.a.Epoch) < 5 {
				add(must[api.Packet](t)(epoch.Head(w.root, w.s, e, w.lists[e])), e, tick, nil)
			}
		}
		if e := tick / w.a.Epoch; e >= first {
			data := randomBytes(r, r.Intn(20))
			add(must[api.Packet](t)(epoch.Content(w.root, w.a, tick, r.Uint64(), data)), e, tick, data)
		}
	}
	r.Shuffle(len(l), func(i, j int) { l[i], l[j] = l[j], l[i] })
	slices.SortStableFunc(l, func(a, b sent) int { return a.arrives - b.arrives })
	return l
}

// watch lets a receiver take packets from a tick on, and checks what it returns. It returns how often it had data.
func (w show) watch(t *testing.T, r *rand.Rand, l []sent, u, from int) int {
	t.Helper()
	ahead := []int{-w.a.Drift, w.a.Drift, r.Intn(2*w.a.Drift+1) - w.a.Drift}[r.Intn(3)]
	x := newReceiver(t, w.root, w.s, w.a, u, ahead)
	got, played := map[int]bool{}, 0
	for _, p := range l {
		if p.arrives < from || p.arrives > api.MaxTick {
			continue
		}
		want, wantData := api.OK, p.data
		revoked := slices.Contains(w.lists[p.epoch], u)
		switch {
		case p.packet.Kind == api.PacketHeader && got[p.epoch]:
			want = api.ErrOld
		case p.packet.Kind == api.PacketHeader && revoked, p.packet.Kind == api.PacketContent && !got[p.epoch]:
			want = api.ErrNone
		}
		if want != api.OK {
			wantData = nil
		}
		y, data, e := epoch.Take(w.s, w.a, x, p.packet, p.arrives)
		if e != want || !bytes.Equal(data, wantData) {
			t.Fatalf("%+v, %+v: receiver %d, %d ahead: kind %d of epoch %d at %d: %x, %v, want %x, %v",
				w.s, w.a, u, ahead, p.packet.Kind, p.epoch, p.arrives, data, e, wantData, want)
		}
		if e != api.OK {
			continue
		}
		x = y
		if p.packet.Kind == api.PacketHeader {
			got[p.epoch] = true
		} else {
			played++
		}
	}
	return played
}

// After any header packet of an epoch a receiver has all content of it, and none before, and none without.
func TestTheWhole(t *testing.T) { // P5.9
	r := rand.New(rand.NewSource(1))
	played := 0
	for range 150 {
		first := []int{0, 1, 2, r.Intn(1 << 20)}[r.Intn(4)]
		last := first + 1 + r.Intn(4)
		w := someShow(r, first, last)
		l := w.send(t, r, first, last)
		for u := range 1 << w.s.Depth {
			from := 0
			if r.Intn(2) == 0 {
				from = first*w.a.Epoch + r.Intn((last-first)*w.a.Epoch)
			}
			played += w.watch(t, r, l, u, from)
		}
	}
	if played < 10000 {
		t.Error("only", played, "packets were played")
	}
}

// All packets of an epoch whose headers arrive at the last moment, and then as many of the next but one at the first.
func TestTheSlotIsKeptAsLongAsItIsNeeded(t *testing.T) { // P5.9
	for _, a := range airs() {
		if a.Epoch > 1000 {
			continue
		}
		s, root := scheme(api.SchemeDifference, 1), api.Key{4}
		for _, ahead := range []int{-a.Drift, 0, a.Drift} {
			x := newReceiver(t, root, s, a, 0, ahead)
			for n := range 4 {
				head := headOf(t, root, s, n, nil)
				first := max(0, n*a.Epoch-a.Early)
				y, _, e := epoch.Take(s, a, x, head, first)
				if e != api.OK {
					t.Fatalf("%+v, %d: %v", a, n, e)
				}
				x = y
				// The last content of the epoch before it still arrives.
				if tick := n*a.Epoch - 1; tick >= 0 {
					_, data, e := epoch.Take(s, a, x, contentOf(root, a, tick, 1, []byte{7}), tick+a.Delay)
					if e != api.OK || !bytes.Equal(data, []byte{7}) {
						t.Fatalf("%+v, %d: %x, %v", a, n, data, e)
					}
				}
			}
		}
	}
}
