package trace_test

import (
	"math/rand"
	"reflect"
	"slices"
	"testing"

	"headend/api"
	"headend/cipher"
	"headend/cover"
	"headend/trace"
)

func isEmptyHeader(h api.Header) bool { return reflect.DeepEqual(h, api.Header{}) }

// leaves returns the subsets of all receivers, each on its own.
func leaves(s api.Scheme) []api.Subset {
	var l []api.Subset
	for u := range 1 << s.Depth {
		x := api.Subset{Node: 1<<s.Depth + u}
		if s.Kind != api.SchemeSubtree && s.Depth > 0 {
			x.Minus = x.Node ^ 1
			x.Node /= 2
		}
		if s.Kind != api.SchemeSubtree && s.Depth == 0 {
			x.Node = 1
		}
		l = append(l, x)
	}
	return l
}

func TestCheckParts(t *testing.T) { // P8.4
	r := rand.New(rand.NewSource(21))
	for range 1000 {
		s := someScheme(r)
		if l := someParts(t, r, s); trace.CheckParts(s, l) != api.OK {
			t.Fatalf("%+v, %v", s, l)
		}
	}
	for _, s := range schemes() {
		for _, l := range [][]api.Subset{nil, {}, {{Node: 1}}, leaves(s)} {
			if e := trace.CheckParts(s, l); e != api.OK {
				t.Errorf("%+v, %v: %v", s, l, e)
			}
		}
		l := append(leaves(s), leaves(s)[0])
		want := api.ErrParts
		if s.Depth == api.MaxDepth {
			want = api.ErrMany
		}
		if e := trace.CheckParts(s, l); e != want {
			t.Errorf("%+v, %v: %v", s, l, e)
		}
	}
}

func TestCommonMembers(t *testing.T) { // P8.4
	r := rand.New(rand.NewSource(22))
	counts := map[bool]int{}
	for range 5000 {
		s := someScheme(r)
		l := someSubsets(r, s, pick(r, 1, 2, 2, 3, 5))
		if r.Intn(3) == 0 {
			l = someParts(t, r, s)
			l = l[:min(len(l), 63)]
			l = slices.Insert(l, r.Intn(len(l)+1), someSubset(r, s))
		}
		is := isPartition(s, l)
		counts[is]++
		if e := trace.CheckParts(s, l); (e == api.OK) != is || (e == api.ErrParts) == is {
			t.Fatalf("%+v, %v: %v", s, l, e)
		}
	}
	if counts[true] < 1000 || counts[false] < 1000 {
		t.Error("too few that are partitions, or are not:", counts)
	}
}

func TestPartsErrors(t *testing.T) { // P8.4, P8.5, R1, R2, R5
	r := rand.New(rand.NewSource(23))
	fails := func(s api.Scheme, l []api.Subset, want api.Errno) {
		t.Helper()
		if e := trace.CheckParts(s, l); e != want {
			t.Errorf("%+v, %v: %v instead of %v", s, l, e, want)
		}
		for _, n := range []int{0, -1, 1 << 40} {
			if h, e := trace.Hybrid(api.Key{1}, s, l, n, api.Key{2}); e != want || !isEmptyHeader(h) {
				t.Errorf("%+v, %v: %v, %v instead of %v", s, l, h, e, want)
			}
			b := api.Box{Scheme: s, Mode: api.BoxAll, Asked: api.MaxQueries}
			if f, x, e := trace.Trace(b, l, n); e != want || !isSameFinding(f, api.Finding{}) || !isSameBox(x, api.Box{}) {
				t.Errorf("%+v, %v: %v, %v, %v instead of %v", s, l, f, x, e, want)
			}
		}
	}
	for _, s := range wrongSchemes() {
		for _, l := range [][]api.Subset{nil, {{Node: 1}}, {{Node: 1}, {Node: 1}}, {{Node: -1}}, make([]api.Subset, 65)} {
			fails(s, l, api.ErrScheme)
		}
	}
	for _, s := range schemes() {
		fails(s, make([]api.Subset, 65), api.ErrMany)
		fails(s, someSubsets(r, s, 65), api.ErrMany)
		fails(s, slices.Repeat([]api.Subset{{Node: 1}}, 64), api.ErrParts)
		wrong := wrongSubsets(s)
		for range 60 {
			// The subset that is none comes behind two that have members in common.
			fails(s, []api.Subset{pick(r, wrong...)}, api.ErrSubset)
			fails(s, []api.Subset{{Node: 1}, {Node: 1}, pick(r, wrong...)}, api.ErrSubset)
		}
	}
}

func TestHybrid(t *testing.T) { // P8.4
	r := rand.New(rand.NewSource(24))
	for range 1000 {
		s, root, session := someScheme(r), randomKey(r), randomKey(r)
		l := someParts(t, r, s)
		fakes := pick(r, 0, len(l), r.Intn(len(l)+1))
		want := must[api.Header](t)(cover.Seal(root, s, l, session))
		for i := range fakes {
			key := must[api.Key](t)(cover.SubsetKey(root, s, l[i]))
			want.Items[i].Box = cipher.Encrypt(key, cipher.Derive(session, 80, uint64(i)))
		}
		h, e := trace.Hybrid(root, s, l, fakes, session)
		if e != api.OK || !slices.Equal(h.Items, want.Items) || len(h.Points) != 0 {
			t.Fatalf("%+v, %v, %d: %v, %v", s, l, fakes, h, e)
		}
		if h.Check != want.Check || h.Base != 0 || h.Box != (api.Key{}) {
			t.Fatalf("%+v, %v, %d: %v", s, l, fakes, h)
		}
		for _, n := range append(wild(), -1, len(l)+1, 65) {
			if h, e := trace.Hybrid(root, s, l, n, session); e != api.ErrArg || !isEmptyHeader(h) {
				t.Fatalf("%+v, %v, %d: %v, %v", s, l, n, h, e)
			}
		}
	}
}

func TestWhoOpensHybrids(t *testing.T) { // P8.4: the members of the right items, and nobody else
	r := rand.New(rand.NewSource(25))
	for range 200 {
		s, root, session := someScheme(r), randomKey(r), randomKey(r)
		l := someParts(t, r, s)
		fakes := r.Intn(len(l) + 1)
		h := must[api.Header](t)(trace.Hybrid(root, s, l, fakes, session))
		right := membersOf(s, l[fakes:]...)
		for range 10 {
			u := r.Intn(1 << s.Depth)
			secret := must[api.Secret](t)(cover.Secret(root, s, u))
			got, e := cover.Open(s, secret, h)
			if slices.Contains(right, u) {
				if e != api.OK || got != session {
					t.Fatalf("%+v, %v, %d, %d: %v, %v", s, l, fakes, u, got, e)
				}
			} else if e != api.ErrNone {
				t.Fatalf("%+v, %v, %d, %d: %v, %v", s, l, fakes, u, got, e)
			}
		}
	}
}
