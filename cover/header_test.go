package cover_test

import (
	"math/rand"
	"slices"
	"testing"

	"headend/api"
	"headend/cipher"
	"headend/cover"
)

// sameHeader reports whether two headers are the same (R4).
func sameHeader(a, b api.Header) bool {
	return slices.Equal(a.Items, b.Items) && slices.Equal(a.Points, b.Points) &&
		a.Base == b.Base && a.Box == b.Box && a.Check == b.Check
}

func isZero(h api.Header) bool { return sameHeader(h, api.Header{}) }

// someSubsets returns n subsets of a scheme, in any order, also several times.
func someSubsets(r *rand.Rand, s api.Scheme, n int) []api.Subset {
	all := subsets(s)
	var l []api.Subset
	for range n {
		l = append(l, all[r.Intn(len(all))])
	}
	return l
}

// sealed follows the description of Seal.
func sealed(root api.Key, s api.Scheme, l []api.Subset, session api.Key) api.Header {
	h := api.Header{Check: cipher.Derive(session, api.TagCheck, 0)}
	for _, x := range l {
		h.Items = append(h.Items, api.Item{Subset: x, Box: cipher.Encrypt(subsetKey(root, s, x), session)})
	}
	return h
}

func TestSeal(t *testing.T) { // P3.5
	r := rand.New(rand.NewSource(6))
	for _, s := range schemes() {
		for _, n := range []int{0, 1, 2, 5, 63, 64} {
			root, session := random(r), random(r)
			l := someSubsets(r, s, n)
			h, e := cover.Seal(root, s, l, session)
			if e != api.OK || !sameHeader(h, sealed(root, s, l, session)) {
				t.Errorf("%+v, %v: %+v, %v", s, l, h, e)
			}
		}
	}
}

func TestFixedHeader(t *testing.T) { // P3.5
	l := []api.Subset{{Node: 2, Minus: 8}, {Node: 3, Minus: 13}}
	h, e := cover.Seal(rootKey(t), scheme(difference, 3), l, block(t, "0123456789abcdeffedcba9876543210"))
	want := api.Header{
		Items: []api.Item{
			{Subset: l[0], Box: block(t, "61a6f9e7699438d82aefdbdce1c063a8")},
			{Subset: l[1], Box: block(t, "1e2ba94878a3aa6f071b116f3bb71ff0")},
		},
		Check: block(t, "0e08ac8c3f93e3ca512639313078ac0e"),
	}
	if e != api.OK || !sameHeader(h, want) {
		t.Errorf("%+v, %v", h, e)
	}
}

func TestSealErrors(t *testing.T) { // P3.5, R1, R2
	r := rand.New(rand.NewSource(7))
	for _, s := range schemes() {
		for _, n := range []int{65, 66, 1000} {
			l := someSubsets(r, s, n)
			for range 2 {
				if h, e := cover.Seal(random(r), s, l, random(r)); e != api.ErrMany || !isZero(h) {
					t.Errorf("%+v, %d subsets: %+v, %v", s, n, h, e)
				}
				l[0] = api.Subset{}
			}
		}
		wrong := wrongSubsets(s)
		for range 100 {
			l := someSubsets(r, s, 1+r.Intn(64))
			l[r.Intn(len(l))] = wrong[r.Intn(len(wrong))]
			if h, e := cover.Seal(random(r), s, l, random(r)); e != api.ErrSubset || !isZero(h) {
				t.Errorf("%+v, %v: %+v, %v", s, l, h, e)
			}
		}
	}
}

func TestOpenOfWhatWasSealed(t *testing.T) { // P3.5, P3.8
	r := rand.New(rand.NewSource(8))
	for _, s := range schemes() {
		for range 12 {
			root, session := random(r), random(r)
			l := someSubsets(r, s, r.Intn(6))
			opens(t, root, s, l, session, func(u int) bool {
				return slices.ContainsFunc(l, func(x api.Subset) bool { return isMember(s, u, x) })
			})
		}
		for i, revoked := range lists(s.Depth) {
			if i%7 != 0 {
				continue
			}
			l := must[[]api.Subset](t)(cover.Cover(s, revoked))
			opens(t, random(r), s, l, random(r), func(u int) bool { return !slices.Contains(revoked, u) })
		}
	}
}

// opens checks that the header for some subsets opens for exactly the receivers that may open it.
func opens(t *testing.T, root api.Key, s api.Scheme, l []api.Subset, session api.Key, may func(u int) bool) {
	t.Helper()
	h := must[api.Header](t)(cover.Seal(root, s, l, session))
	for u := range 1 << s.Depth {
		got, e := cover.Open(s, secretOf(t, root, s, u), h)
		if may(u) && (e != api.OK || got != session) || !may(u) && (e != api.ErrNone || got != api.Key{}) {
			t.Fatalf("%+v, %v, receiver %d: %x, %v", s, l, u, got, e)
		}
	}
}

// An item with a wrong box, or for which no key is found, is passed over.
func TestOpenTriesTheItemsInOrder(t *testing.T) { // P3.5
	s, root, session := scheme(subtree, 2), api.Key{5}, api.Key{6}
	l := []api.Subset{{Node: 3}, {Node: 4}, {Node: 2}, {Node: 1}}
	h := must[api.Header](t)(cover.Seal(root, s, l, session))
	h.Items[1].Box[15] ^= 1
	c := secretOf(t, root, s, 0)
	if got, e := cover.Open(s, c, h); e != api.OK || got != session {
		t.Errorf("%x, %v", got, e)
	}
	h.Items[2].Box[0] ^= 1
	if got, e := cover.Open(s, c, h); e != api.OK || got != session {
		t.Errorf("%x, %v", got, e)
	}
	h.Items[3].Box[7] ^= 1
	if got, e := cover.Open(s, c, h); e != api.ErrNone || got != (api.Key{}) {
		t.Errorf("%x, %v", got, e)
	}
}

// Only the first label that leads to a key is tried, also if a later one would do.
func TestOpenTriesOneLabelAnItem(t *testing.T) { // P3.4, P3.5
	s, root, session := scheme(difference, 2), api.Key{5}, api.Key{6}
	h := must[api.Header](t)(cover.Seal(root, s, []api.Subset{{Node: 1, Minus: 4}}, session))
	c := secretOf(t, root, s, 3)
	good := slices.Clone(c.Labels)
	c.Labels = append([]api.Label{{Node: 1, Minus: 4, Key: api.Key{9}}}, good...)
	if got, e := cover.Open(s, c, h); e != api.ErrNone || got != (api.Key{}) {
		t.Errorf("%x, %v", got, e)
	}
	c.Labels = append(good, api.Label{Node: 1, Minus: 4, Key: api.Key{9}})
	if got, e := cover.Open(s, c, h); e != api.OK || got != session {
		t.Errorf("%x, %v", got, e)
	}
}

func TestOpenWithAnotherCheck(t *testing.T) { // P3.5
	s, root, session := scheme(layered, 4), api.Key{5}, api.Key{6}
	h := must[api.Header](t)(cover.Seal(root, s, []api.Subset{{Node: 1}}, session))
	for i := range h.Check {
		wrong := h
		wrong.Check[i] ^= 0x10
		if got, e := cover.Open(s, secretOf(t, root, s, 9), wrong); e != api.ErrNone || got != (api.Key{}) {
			t.Errorf("byte %d: %x, %v", i, got, e)
		}
	}
}

func TestOpenOfNoHeader(t *testing.T) { // P3.5, R1, R4
	r := rand.New(rand.NewSource(9))
	for _, s := range schemes() {
		root, session := random(r), random(r)
		c := secretOf(t, root, s, 0)
		wrong := wrongSubsets(s)
		good := must[api.Header](t)(cover.Seal(root, s, []api.Subset{{Node: 1}, {Node: 1}}, session))
		for name, change := range map[string]func(h *api.Header){
			"base":       func(h *api.Header) { h.Base = 1 },
			"large base": func(h *api.Header) { h.Base = 1 << 63 },
			"a point":    func(h *api.Header) { h.Points = []api.Point{{}} },
			"points":     func(h *api.Header) { h.Points = make([]api.Point, 3) },
			"box":        func(h *api.Header) { h.Box[r.Intn(16)] = 1 },
			"many":       func(h *api.Header) { h.Items = slices.Repeat(h.Items[:1], 65) },
			"first item": func(h *api.Header) { h.Items[0].Subset = wrong[r.Intn(len(wrong))] },
			"last item":  func(h *api.Header) { h.Items[1].Subset = wrong[r.Intn(len(wrong))] },
		} {
			h := good
			h.Items = slices.Clone(good.Items)
			change(&h)
			for _, secret := range []api.Secret{c, {}} {
				if got, e := cover.Open(s, secret, h); e != api.ErrBad || got != (api.Key{}) {
					t.Errorf("%+v, %s: %x, %v", s, name, got, e)
				}
			}
		}
		good.Items = slices.Repeat(good.Items, 32)
		good.Points = []api.Point{}
		if got, e := cover.Open(s, c, good); e != api.OK || got != session {
			t.Errorf("%+v: %x, %v", s, got, e)
		}
		if got, e := cover.Open(s, c, api.Header{}); e != api.ErrNone || got != (api.Key{}) {
			t.Errorf("%+v: %x, %v", s, got, e)
		}
	}
}
