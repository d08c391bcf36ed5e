package epoch_test

import (
	"math"
	"math/rand"
	"slices"
	"testing"

	"headend/api"
	"headend/cipher"
	"headend/cover"
	"headend/epoch"
	"headend/poly"
)

func TestSessionAndWord(t *testing.T) { // P5.3, R5
	r := rand.New(rand.NewSource(1))
	for _, n := range append(wild(), 0, 1, 2, 255, 256, api.MaxTick, r.Int()) {
		k := random(r)
		if got := epoch.Session(k, n); got != cipher.Derive(k, 50, uint64(n)) {
			t.Errorf("%d: %x", n, got)
		}
		if got := epoch.Word(k, n); got != cipher.Derive(k, 51, uint64(n)) {
			t.Errorf("%d: %x", n, got)
		}
	}
}

func TestFixedKeys(t *testing.T) { // P5.3
	for _, c := range []struct {
		n             int
		session, word string
	}{
		{0, "5b7130035413aa77d3260de1673bd161", "de02d34989d5e64498151155da1cdf0c"},
		{1, "ca2ca579a5a84c8511e033d560125a3d", "a0684e95d782e16bba4f4333d333d599"},
		{258, "21d693285619e8ec1478aae944e093c5", "a7d260bf211eccfe69d8e5358249044a"},
		{api.MaxTick, "522ab71cfb410648d0f88157f3de80f0", "bfe504eba2c741c76ec3a4fac46f9911"},
		{-1, "059fcde054f61692628048b23826ba5c", "00a17d0c5ccf3635227dd2acf2b3fd98"},
	} {
		if got := epoch.Session(upKey(t), c.n); got != block(t, c.session) {
			t.Errorf("%d: %x", c.n, got)
		}
		if got := epoch.Word(upKey(t), c.n); got != block(t, c.word) {
			t.Errorf("%d: %x", c.n, got)
		}
	}
}

func TestCheckScheme(t *testing.T) { // P5.3
	for _, s := range schemes() {
		if e := epoch.CheckScheme(s); e != api.OK {
			t.Errorf("%+v: %v", s, e)
		}
	}
	for _, w := range wrongSchemes() {
		if e := epoch.CheckScheme(w.s); e != w.e {
			t.Errorf("%+v: %v, want %v", w.s, e, w.e)
		}
	}
	for kind := 0; kind < 256; kind++ {
		s := scheme(uint8(kind), 3)
		want := api.ErrArg
		switch kind {
		case 1, 2, 3:
			want = cover.Check(s)
		case 4:
			want = poly.Check(s)
		}
		if e := epoch.CheckScheme(s); e != want {
			t.Errorf("%+v: %v, want %v", s, e, want)
		}
	}
}

func TestSecret(t *testing.T) { // P5.3
	r := rand.New(rand.NewSource(2))
	for _, s := range schemes() {
		for u := range 1 << s.Depth {
			root := random(r)
			want, e := cover.Secret(root, s, u)
			if s.Kind == 4 {
				want, e = poly.Secret(root, s, u)
			}
			if got, ge := epoch.Secret(root, s, u); e != api.OK || ge != api.OK || !isSameSecret(got, want) {
				t.Errorf("%+v, %d: %+v, %v", s, u, got, ge)
			}
		}
		for _, u := range append(wild(), 1<<s.Depth, 64, 128) {
			if got, e := epoch.Secret(random(r), s, u); e != api.ErrArg || !isSameSecret(got, api.Secret{}) {
				t.Errorf("%+v, %d: %+v, %v", s, u, got, e)
			}
		}
	}
}

func TestSeal(t *testing.T) { // P5.4
	r := rand.New(rand.NewSource(3))
	for _, s := range schemes() {
		for _, n := range []int{0, 1, 2, 300, r.Intn(api.MaxTick), api.MaxTick} {
			root, revoked := random(r), someList(r, s)
			got, e := epoch.Seal(root, s, n, revoked)
			if want := sealed(t, root, s, n, revoked); e != api.OK || !isSameHeader(got, want) {
				t.Errorf("%+v, %d, %v: %+v, %v, want %+v", s, n, revoked, got, e, want)
			}
		}
	}
}

// wrongLists returns values that are no lists of receivers.
func wrongLists(depth int) [][]int {
	last := 1<<depth - 1
	ls := [][]int{{last + 1}, {-1}, {0, 0}, {last, last}, {0, last + 1}, {-1, 0}, {last, 0, last}, slices.Repeat([]int{last}, 100)}
	if last > 1 {
		ls = append(ls, []int{1, 0}, []int{0, last, last - 1})
	}
	for _, far := range wild() {
		ls = append(ls, []int{far}, []int{0, far})
	}
	return ls
}

func TestSealErrors(t *testing.T) { // P5.4, P5.6, R1, R2, R5
	r := rand.New(rand.NewSource(4))
	for _, s := range schemes() {
		check := func(n int, revoked []int, want api.Errno) {
			t.Helper()
			if h, e := epoch.Seal(random(r), s, n, revoked); e != want || !isSameHeader(h, api.Header{}) {
				t.Errorf("%+v, %d, %v: %+v, %v, want %v", s, n, revoked, h, e, want)
			}
			if p, e := epoch.Head(random(r), s, n, revoked); e != want || !isSamePacket(p, api.Packet{}) {
				t.Errorf("%+v, %d, %v: %+v, %v, want %v", s, n, revoked, p, e, want)
			}
		}
		for _, n := range wild() {
			check(n, nil, api.ErrArg)
			check(n, []int{-1}, api.ErrArg)
			check(n, someReceivers(r, s, 64), api.ErrArg)
		}
		for _, l := range wrongLists(s.Depth) {
			check(r.Intn(api.MaxTick), l, api.ErrArg)
		}
		for n := most(s) + 1; n <= 1<<s.Depth; n++ {
			check(r.Intn(api.MaxTick), someReceivers(r, s, n), api.ErrMany)
		}
	}
}

func TestOpen(t *testing.T) { // P5.4
	r := rand.New(rand.NewSource(5))
	for _, s := range schemes() {
		for range 4 {
			root, revoked, n := random(r), someList(r, s), r.Intn(1000)
			h := sealed(t, root, s, n, revoked)
			for u := range 1 << s.Depth {
				secret := must[api.Secret](t)(epoch.Secret(root, s, u))
				k, e := epoch.Open(s, secret, h)
				out := slices.Contains(revoked, u)
				if out && (e != api.ErrNone || k != api.Key{}) || !out && (e != api.OK || k != session(root, n)) {
					t.Fatalf("%+v, %v, %d: %x, %v", s, revoked, u, k, e)
				}
			}
		}
	}
}

func TestOpenOfNoHeader(t *testing.T) { // P5.4, R2
	root := api.Key{1}
	for _, s := range schemes() {
		secret := must[api.Secret](t)(epoch.Secret(root, s, 0))
		items := api.Header{Items: []api.Item{{Subset: api.Subset{Node: 1 << 20}}}}
		// A header of the trees has no points, one of the polynomial no items.
		other := sealed(t, root, polyScheme(s.Depth, 1), 1, nil)
		if s.Kind == 4 {
			other = sealed(t, root, scheme(api.SchemeDifference, s.Depth), 1, nil)
		}
		for _, h := range []api.Header{items, other, {Base: math.MaxUint64}, {Points: make([]api.Point, 9)}} {
			if k, e := epoch.Open(s, secret, h); e != api.ErrBad || k != (api.Key{}) {
				t.Errorf("%+v, %+v: %x, %v", s, h, k, e)
			}
		}
		h := sealed(t, root, s, 1, nil)
		h.Check[3] ^= 1
		if k, e := epoch.Open(s, secret, h); e != api.ErrNone || k != (api.Key{}) {
			t.Errorf("%+v: %x, %v", s, k, e)
		}
	}
}

func TestWrongSchemeComesFirst(t *testing.T) { // P5.3, R1, R2
	r := rand.New(rand.NewSource(6))
	for _, w := range wrongSchemes() {
		for _, a := range []api.Air{example(), {}} {
			for _, n := range append(wild(), 0, 1) {
				root := random(r)
				x := api.Receiver{Ahead: n, Slots: [2]api.Slot{{Epoch: 1}}}
				results := map[string]api.Errno{}
				results["CheckScheme"] = epoch.CheckScheme(w.s)
				results["Check"] = epoch.Check(w.s, a, x)
				secret, e := epoch.Secret(root, w.s, n)
				results["Secret"] = e
				h, e := epoch.Seal(root, w.s, n, []int{-1})
				results["Seal"] = e
				k, e := epoch.Open(w.s, api.Secret{}, api.Header{})
				results["Open"] = e
				p, e := epoch.Head(root, w.s, n, []int{-1})
				results["Head"] = e
				made, e := epoch.New(root, w.s, a, n, n)
				results["New"] = e
				taken, data, e := epoch.Take(w.s, a, x, api.Packet{}, n)
				results["Take"] = e
				for name, e := range results {
					if e != w.e {
						t.Errorf("%s of %+v: %v, want %v", name, w.s, e, w.e)
					}
				}
				if !isSameSecret(secret, api.Secret{}) || !isSameHeader(h, api.Header{}) || k != (api.Key{}) || !isSamePacket(p, api.Packet{}) ||
					!isSameReceiver(made, api.Receiver{}) || !isSameReceiver(taken, api.Receiver{}) || len(data) > 0 {
					t.Errorf("%+v: a result beside the error", w.s)
				}
			}
		}
	}
}
