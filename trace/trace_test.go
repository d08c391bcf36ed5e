package trace_test

import (
	"math/rand"
	"slices"
	"testing"

	"headend/api"
	"headend/cover"
	"headend/trace"
)

func TestBound(t *testing.T) { // P8.5
	for _, s := range schemes() {
		for noise := range 9 {
			if n, e := trace.Bound(s, noise); e != api.OK || n != boundOf(s, noise) {
				t.Errorf("%+v, %d: %d, %v", s, noise, n, e)
			}
		}
		for _, noise := range append(wild(), -1, 9, 10) {
			if n, e := trace.Bound(s, noise); e != api.ErrArg || n != 0 {
				t.Errorf("%+v, %d: %d, %v", s, noise, n, e)
			}
		}
	}
	for _, s := range wrongSchemes() {
		for _, noise := range []int{0, 8, 9, -1} {
			if n, e := trace.Bound(s, noise); e != api.ErrScheme || n != 0 {
				t.Errorf("%+v, %d: %d, %v", s, noise, n, e)
			}
		}
	}
}

func TestTrace(t *testing.T) { // P8.5
	r := rand.New(rand.NewSource(31))
	ends, named := map[uint8]int{}, 0
	for range 700 {
		b := someBox(r)
		l := someParts(t, r, b.Scheme)
		noise := pick(r, b.Noise, b.Noise, 0, 1, 8)
		wantFinding, wantBox := traceOf(b, l, noise)
		f, x, e := trace.Trace(b, l, noise)
		if e != api.OK || !isSameFinding(f, wantFinding) || !isSameBox(x, wantBox) {
			t.Fatalf("%+v, %v, %d:\n%+v, %+v, %v instead of\n%+v, %+v", b, l, noise, f, x, e, wantFinding, wantBox)
		}
		ends[f.End]++
		named += len(f.Named)
	}
	if ends[api.EndSilent] < 100 || ends[api.EndDead] < 20 || named < 300 {
		t.Error("too few of an end, or named:", ends, named)
	}
}

func TestTraceErrors(t *testing.T) { // P8.5, R1, R5
	fails := func(b api.Box, l []api.Subset, noise int, want api.Errno) {
		t.Helper()
		if f, x, e := trace.Trace(b, l, noise); e != want || !isSameFinding(f, api.Finding{}) || !isSameBox(x, api.Box{}) {
			t.Errorf("%+v, %v, %d: %v, %v, %v instead of %v", b, l, noise, f, x, e, want)
		}
	}
	for _, s := range schemes() {
		b := api.Box{Scheme: s, Mode: api.BoxAny, Asked: api.MaxQueries}
		for _, l := range [][]api.Subset{nil, {{Node: 1}}, leaves(s)} {
			for _, noise := range append(wild(), -1, 9) {
				fails(b, l, noise, api.ErrArg)
			}
			for noise := range 9 {
				b.Asked = api.MaxQueries - boundOf(s, noise)
				f, x, e := trace.Trace(b, l, noise)
				if e != api.OK || f.Asked != 2*noise+1 || x.Asked != b.Asked+f.Asked || f.End != api.EndSilent {
					t.Errorf("%+v, %v, %d: %v, %v, %v", b, l, noise, f, x, e)
				}
				b.Asked++
				fails(b, l, noise, api.ErrFull)
				b.Asked = api.MaxQueries
				fails(b, l, noise, api.ErrFull)
			}
		}
	}
}

// checkTrace fails unless a trace is as P8.7 promises, whatever the noise of the box.
func checkTrace(t *testing.T, b api.Box, l []api.Subset, noise int, f api.Finding, after api.Box) {
	t.Helper()
	if f.Asked > boundOf(b.Scheme, noise) || after.Asked != b.Asked+f.Asked || after.Mixed < b.Mixed {
		t.Fatalf("%+v, %v, %d: %d queries, %+v", b, l, noise, f.Asked, after)
	}
	if trace.CheckBox(after) != api.OK || trace.CheckParts(b.Scheme, f.Subsets) != api.OK {
		t.Fatalf("%+v, %v, %d: %+v, %v", b, l, noise, after, f)
	}
	rest := slices.DeleteFunc(membersOf(b.Scheme, l...), func(u int) bool { return slices.Contains(f.Named, u) })
	if got := membersOf(b.Scheme, f.Subsets...); !slices.Equal(got, rest) || len(got)+len(f.Named) != len(membersOf(b.Scheme, l...)) {
		t.Fatalf("%+v, %v, %d: %v", b, l, noise, f)
	}
}

// checkSound fails unless a trace with enough noise is as P8.7 promises.
func checkSound(t *testing.T, b api.Box, l []api.Subset, noise int, f api.Finding, after api.Box) {
	t.Helper()
	for _, u := range f.Named {
		if !slices.Contains(b.Coalition, u) {
			t.Fatalf("%+v, %v, %d: an innocent receiver is named: %v", b, l, noise, f)
		}
	}
	knows := func(x api.Subset) bool { return must[bool](t)(cover.Knows(b.Scheme, b.Coalition, x)) }
	if f.End == api.EndSilent && b.Lives == 0 && slices.ContainsFunc(f.Subsets, knows) {
		t.Fatalf("%+v, %v, %d: not all are named: %v", b, l, noise, f)
	}
	if f.End == api.EndDead && b.Lives == 0 {
		t.Fatalf("%+v, %v, %d: a box that cannot die is dead: %v", b, l, noise, f)
	}
	for range 2*noise + 1 {
		x, plays, e := trace.Ask(after, f.Subsets, 0)
		if e != api.OK || plays {
			t.Fatalf("%+v, %v, %d: it plays at the end: %v, %v", b, l, noise, f, e)
		}
		after = x
	}
}

func TestTraces(t *testing.T) { // P8.7
	r := rand.New(rand.NewSource(32))
	named, unsound := 0, 0
	for range 2500 {
		b := someBox(r)
		l := someParts(t, r, b.Scheme)
		noise := pick(r, b.Noise, b.Noise, min(b.Noise+1, 8), 8, r.Intn(9))
		f, after, e := trace.Trace(b, l, noise)
		if e != api.OK {
			t.Fatal(e)
		}
		checkTrace(t, b, l, noise, f, after)
		if noise < b.Noise {
			unsound++
			continue
		}
		checkSound(t, b, l, noise, f, after)
		named += len(f.Named)
	}
	if named < 1000 || unsound < 100 {
		t.Error("too few receivers are named, or too few boxes with more noise:", named, unsound)
	}
}

func TestAllCoalitions(t *testing.T) { // P8.7: small trees, from the cover of nobody and of one revoked receiver on
	for _, kind := range kinds() {
		for depth := range 4 {
			s := scheme(kind, depth)
			for set := range 1 << (1 << depth) {
				b := api.Box{Scheme: s, Mode: modes()[set%4], Lives: set % 3, Noise: set % 2, Seed: api.Key{byte(set)}}
				for u := range 1 << depth {
					if set>>u&1 == 1 {
						b.Coalition = append(b.Coalition, u)
					}
				}
				for _, revoked := range [][]int{nil, {set % (1 << depth)}} {
					l := must[[]api.Subset](t)(cover.Cover(s, revoked))
					f, after, e := trace.Trace(b, l, b.Noise)
					if e != api.OK {
						t.Fatal(e)
					}
					checkTrace(t, b, l, b.Noise, f, after)
					checkSound(t, b, l, b.Noise, f, after)
					free := slices.DeleteFunc(slices.Clone(b.Coalition), func(u int) bool { return slices.Contains(revoked, u) })
					if b.Lives == 0 && !slices.Equal(f.Named, free) {
						t.Fatalf("%+v, %v: %v instead of %v", b, l, f, free)
					}
				}
			}
		}
	}
}

func TestManyQueries(t *testing.T) { // P8.7: large trees in which all are pirates, with as much noise as there may be, and no more queries than the bound left
	for _, kind := range kinds() {
		for i, mode := range modes() {
			s := scheme(kind, 6)
			b := api.Box{Scheme: s, Coalition: membersOf(s, api.Subset{Node: 1}), Mode: mode, Noise: 8, Seed: api.Key{byte(i)}}
			b.Asked = api.MaxQueries - boundOf(s, 8)
			l := []api.Subset{{Node: 1}}
			f, after, e := trace.Trace(b, l, 8)
			if e != api.OK || !slices.Equal(f.Named, b.Coalition) || len(f.Subsets) != 0 || f.End != api.EndSilent {
				t.Fatalf("%+v: %v, %v", b, f, e)
			}
			checkTrace(t, b, l, 8, f, after)
			checkSound(t, b, l, 8, f, after)
		}
	}
}

func TestDeadBoxes(t *testing.T) { // P8.5, P8.7
	s := scheme(api.SchemeSubtree, 2)
	l := []api.Subset{{Node: 2}, {Node: 3}}
	b := api.Box{Scheme: s, Coalition: []int{0, 3}, Mode: api.BoxAll, Lives: 1}
	for i, x := range []struct {
		asked, mixed int
		want         api.Finding
	}{
		// The first mixed query leaves it alive, the second one does not.
		{0, 0, api.Finding{Subsets: []api.Subset{{Node: 4}, {Node: 5}, {Node: 3}}, Asked: 6, End: api.EndDead}},
		{1, 1, api.Finding{Subsets: l, Asked: 3, End: api.EndDead}},
		{2, 2, api.Finding{Subsets: l, Asked: 1, End: api.EndSilent}},
	} {
		b.Asked, b.Mixed = x.asked, x.mixed
		f, after, e := trace.Trace(b, l, 0)
		if e != api.OK || !isSameFinding(f, x.want) {
			t.Error(i, f, e)
		}
		checkTrace(t, b, l, 0, f, after)
		checkSound(t, b, l, 0, f, after)
	}
}

func TestTooLittleNoise(t *testing.T) { // P8.7: a box with more noise than assumed may be taken for silent
	for span := range 9 {
		b := api.Box{Scheme: scheme(api.SchemeDifference, 1), Coalition: []int{0, 1}, Mode: api.BoxAll, Noise: 8, Seed: api.Key{byte(span)}}
		_, plays, _ := trace.Ask(b, []api.Subset{{Node: 1}}, 0)
		f, _, e := trace.Trace(b, []api.Subset{{Node: 1}}, 0)
		if e != api.OK || !plays && (f.Asked != 1 || f.End != api.EndSilent || len(f.Named) != 0) {
			t.Error(span, plays, f, e)
		}
	}
}
