package trace_test

import (
	"math/rand"
	"slices"
	"testing"

	"headend/api"
	"headend/cipher"
	"headend/cover"
	"headend/trace"
)

func TestCheckBox(t *testing.T) { // P8.3, R6
	r := rand.New(rand.NewSource(11))
	for range 1000 {
		if b := someBox(r); trace.CheckBox(b) != api.OK {
			t.Fatalf("%+v", b)
		}
	}
	for _, s := range schemes() {
		for _, mode := range modes() {
			last := 1<<s.Depth - 1
			for _, coalition := range [][]int{nil, {}, {0}, {last}, someReceivers(r, s, 1)} {
				for _, b := range []api.Box{{}, {Noise: 8, Lives: 8, Asked: api.MaxQueries, Mixed: api.MaxQueries}, {Lives: 1, Asked: 5, Mixed: 5}} {
					b.Scheme, b.Mode, b.Coalition = s, mode, coalition
					if e := trace.CheckBox(b); e != api.OK {
						t.Errorf("%+v: %v", b, e)
					}
				}
			}
			for _, u := range []int{-1, last + 1} {
				if e := trace.CheckBox(api.Box{Scheme: s, Mode: mode, Coalition: []int{u}}); e != api.ErrBad {
					t.Errorf("%+v, %d: %v", s, u, e)
				}
			}
		}
	}
}

func TestWrongBoxes(t *testing.T) { // P8.3, P8.5, R1, R2, R5
	l := wrongBoxes()
	wrong := map[int]api.Errno{}
	for i := range l {
		wrong[i] = api.ErrBad
	}
	for _, s := range wrongSchemes() {
		for _, b := range append(wrongBoxes()[:3], api.Box{Mode: 1}, api.Box{}) {
			b.Scheme = s
			wrong[len(l)] = api.ErrScheme
			l = append(l, b)
		}
	}
	r := rand.New(rand.NewSource(12))
	for i, b := range l {
		if e := trace.CheckBox(b); e != wrong[i] {
			t.Errorf("%+v: %v", b, e)
		}
		for _, parts := range [][]api.Subset{nil, {{Node: 1}}, {{}}, make([]api.Subset, 65)} {
			n := pick(r, 0, 1, -1, 1<<40)
			if x, plays, e := trace.Ask(b, parts, n); e != wrong[i] || plays || !isSameBox(x, api.Box{}) {
				t.Errorf("%+v: %+v, %v, %v", b, x, plays, e)
			}
			if f, x, e := trace.Trace(b, parts, n); e != wrong[i] || !isSameFinding(f, api.Finding{}) || !isSameBox(x, api.Box{}) {
				t.Errorf("%+v: %+v, %+v, %v", b, f, x, e)
			}
		}
	}
}

func TestAsk(t *testing.T) { // P8.3
	r := rand.New(rand.NewSource(13))
	played, silent := 0, 0
	for range 4000 {
		b := someBox(r)
		l := someParts(t, r, b.Scheme)
		if r.Intn(2) == 0 {
			// The subsets of a query may have members in common.
			l = someSubsets(r, b.Scheme, pick(r, 0, 1, 2, 5, 64, r.Intn(65)))
		}
		for range 3 {
			fakes := pick(r, 0, len(l), r.Intn(len(l)+1), len(l)/2)
			want, wantPlays := askOf(b, l, fakes)
			x, plays, e := trace.Ask(b, l, fakes)
			if e != api.OK || plays != wantPlays || !isSameBox(x, want) {
				t.Fatalf("%+v, %v, %d: %+v, %v, %v", b, l, fakes, x, plays, e)
			}
			if plays {
				played++
			} else {
				silent++
			}
			b = x
		}
	}
	if played < 1000 || silent < 1000 {
		t.Error("too few that play, or do not:", played, silent)
	}
}

func TestAskErrors(t *testing.T) { // P8.3, R1, R5
	r := rand.New(rand.NewSource(14))
	fails := func(b api.Box, l []api.Subset, fakes int, want api.Errno) {
		t.Helper()
		if x, plays, e := trace.Ask(b, l, fakes); e != want || plays || !isSameBox(x, api.Box{}) {
			t.Errorf("%+v, %v, %d: %+v, %v, %v instead of %v", b, l, fakes, x, plays, e, want)
		}
	}
	for range 20 {
		b := someBox(r)
		full := b
		full.Asked = api.MaxQueries
		good := someSubsets(r, b.Scheme, r.Intn(64))
		for _, n := range []int{65, 66, 1000} {
			many := append(someSubsets(r, b.Scheme, 64), make([]api.Subset, n-64)...)
			fails(full, many, -1, api.ErrMany)
		}
		for _, x := range wrongSubsets(b.Scheme) {
			fails(full, slices.Insert(slices.Clone(good), r.Intn(len(good)+1), x), -1, api.ErrSubset)
		}
		for _, n := range append(wild(), -1, len(good)+1, 65) {
			fails(b, good, n, api.ErrArg)
			fails(full, good, n, api.ErrArg)
		}
		fails(full, good, len(good), api.ErrFull)
		full.Asked--
		if x, _, e := trace.Ask(full, good, 0); e != api.OK || x.Asked != api.MaxQueries {
			t.Errorf("%+v: %+v, %v", full, x, e)
		}
		if x, _, e := trace.Ask(b, someSubsets(r, b.Scheme, 64), 64); e != api.OK || x.Asked != b.Asked+1 {
			t.Errorf("%+v: %+v, %v", b, x, e)
		}
	}
}

func TestLives(t *testing.T) { // P8.3
	mixed, plain := []api.Subset{{Node: 2}, {Node: 3}}, []api.Subset{{Node: 1}}
	for lives := range 9 {
		b := api.Box{Scheme: scheme(api.SchemeSubtree, 3), Coalition: []int{0, 5}, Mode: api.BoxAny, Lives: lives}
		for asked := range 12 {
			x, plays, e := trace.Ask(b, mixed, 1)
			if want := lives == 0 || asked < lives; e != api.OK || plays != want || x.Mixed != asked+1 {
				t.Error(lives, asked, x.Mixed, plays, e)
			}
			b = x
			// Queries that are not mixed cost nothing, but a dead box does not play them either.
			for _, fakes := range []int{0, 1} {
				x, plays, e = trace.Ask(b, plain, fakes)
				if want := fakes == 0 && (lives == 0 || asked < lives); e != api.OK || plays != want || x.Mixed != asked+1 {
					t.Error(lives, asked, fakes, x.Mixed, plays, e)
				}
			}
		}
	}
}

func TestMixedCountsWithoutPlaying(t *testing.T) { // P8.3: also of a dead box, in noise, and of a mode that does not play
	for _, mode := range modes() {
		b := api.Box{Scheme: scheme(api.SchemeLayered, 4), Coalition: []int{3, 9}, Mode: mode, Noise: 8, Lives: 1}
		l := []api.Subset{{Node: 1, Minus: 3}, {Node: 1, Minus: 2}}
		for n := range 30 {
			x, _, e := trace.Ask(b, l, 1)
			if e != api.OK || x.Asked != n+1 || x.Mixed != n+1 {
				t.Fatal(mode, n, x, e)
			}
			b = x
		}
	}
}

func TestNoise(t *testing.T) { // P8.3: a box that can play plays one query of each span, the one that its seed says
	for noise := range 9 {
		b := api.Box{Scheme: scheme(api.SchemeDifference, 2), Coalition: []int{2}, Mode: api.BoxAll, Noise: noise, Seed: downKey()}
		for span := range 20 {
			var played []int
			for i := range noise + 1 {
				x, plays, e := trace.Ask(b, []api.Subset{{Node: 1}}, 0)
				if e != api.OK {
					t.Fatal(e)
				}
				if plays {
					played = append(played, i)
				}
				b = x
			}
			if want := int(cipher.Number(downKey(), uint64(span), uint64(noise+1))); !slices.Equal(played, []int{want}) {
				t.Error(noise, span, played, want)
			}
		}
	}
}

func TestModes(t *testing.T) { // P8.3: all numbers of right and wrong open items, of one receiver each
	r := rand.New(rand.NewSource(15))
	s := scheme(api.SchemeSubtree, 6)
	odd := 0
	for range 400 {
		b := api.Box{Scheme: s, Coalition: someReceivers(r, s, pick(r, 1, 2, 8)), Seed: randomKey(r)}
		var l []api.Subset
		for _, u := range r.Perm(64) {
			l = append(l, api.Subset{Node: 64 + u})
		}
		fakes := r.Intn(65)
		isOpen := func(x api.Subset) bool { return slices.Contains(b.Coalition, x.Node-64) }
		wrong, right := 0, 0
		for i, x := range l {
			if isOpen(x) && i < fakes {
				wrong++
			} else if isOpen(x) {
				right++
			}
		}
		isOdd := cipher.Number(b.Seed, 4294967296+64*uint64(wrong)+uint64(right), 2) == 1
		if isOdd && wrong > 0 && right > 0 {
			odd++
		}
		for mode, mixed := range map[uint8]bool{api.BoxFirst: slices.IndexFunc(l, isOpen) >= fakes, api.BoxAll: false, api.BoxAny: true, api.BoxOdd: isOdd} {
			b.Mode = mode
			_, plays, e := trace.Ask(b, l, fakes)
			if want := right > 0 && (wrong == 0 || mixed); e != api.OK || plays != want {
				t.Fatal(mode, wrong, right, plays, e)
			}
		}
	}
	if odd < 50 {
		t.Error("too few that BoxOdd plays:", odd)
	}
}

func TestQueriesAreHybrids(t *testing.T) { // P8.3, P8.4: a box that plays all it can plays what its secrets open
	r := rand.New(rand.NewSource(16))
	opened := 0
	for range 300 {
		b := someBox(r)
		b.Mode, b.Noise, b.Lives = api.BoxAny, 0, 0
		l := someParts(t, r, b.Scheme)
		fakes := r.Intn(len(l) + 1)
		root, session := randomKey(r), randomKey(r)
		h := must[api.Header](t)(trace.Hybrid(root, b.Scheme, l, fakes, session))
		opens := false
		for _, u := range b.Coalition {
			secret := must[api.Secret](t)(cover.Secret(root, b.Scheme, u))
			got, e := cover.Open(b.Scheme, secret, h)
			in := slices.IndexFunc(l, func(x api.Subset) bool { return isMember(b.Scheme, u, x) })
			if want := in >= fakes; (e == api.OK) != want || want && got != session {
				t.Fatal(b, l, fakes, u, e)
			}
			opens = opens || e == api.OK
		}
		_, plays, e := trace.Ask(b, l, fakes)
		if e != api.OK || plays != opens {
			t.Fatal(b, l, fakes, plays, opens, e)
		}
		if opens {
			opened++
		}
	}
	if opened < 50 {
		t.Error("too few headers that open:", opened)
	}
}
