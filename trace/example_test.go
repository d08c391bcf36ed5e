package trace_test

import (
	"slices"
	"testing"

	"headend/api"
	"headend/cipher"
	"headend/trace"
)

func TestHuntExamples(t *testing.T) { // P8.1, P8.2
	h := must[api.Hunt](t)(trace.NewHunt(5))
	for i, x := range []struct {
		heard    int
		variants []int
		want     api.Hunt
	}{
		{0, []int{1, 1, 1, 2, 2}, api.Hunt{Pairs: []api.Pair{{Left: []int{0, 1, 2}, Right: []int{3, 4}}}}},
		{2, []int{0, 0, 0, 1, 2}, api.Hunt{Pairs: []api.Pair{{Left: []int{3}, Right: []int{4}}}, Rest: []int{0, 1, 2}}},
		{1, []int{0, 0, 0, -1, 0}, api.Hunt{Rest: []int{0, 1, 2, 4}, Named: []int{3}}},
	} {
		h = hear(t, h, x.heard)
		x.want.Users, x.want.Rounds = 5, i+1
		if l := must[[]int](t)(trace.Variants(h)); !slices.Equal(l, x.variants) || !isSameHunt(h, x.want) {
			t.Error(x.heard, l, h)
		}
	}
	for want, x := range map[int][2]int{8: {5, 2}, 1: {1, 1}} {
		if n, e := trace.Rounds(x[0], x[1]); e != api.OK || n != want {
			t.Error(x, n, e)
		}
	}
}

// exampleBox is the box of the chapter's examples.
func exampleBox(mode uint8) api.Box {
	return api.Box{Scheme: scheme(api.SchemeSubtree, 3), Coalition: []int{0, 5}, Mode: mode}
}

func TestBoxExamples(t *testing.T) { // P8.3
	known := []int{1, 2, 3, 4, 6, 8, 13}
	for v := 1; v < 16; v++ {
		_, plays, e := trace.Ask(exampleBox(api.BoxAll), []api.Subset{{Node: v}}, 0)
		if e != api.OK || plays != slices.Contains(known, v) {
			t.Error(v, plays, e)
		}
	}
	for mode, want := range map[uint8]bool{api.BoxFirst: false, api.BoxAll: false, api.BoxAny: true} {
		_, plays, e := trace.Ask(exampleBox(mode), []api.Subset{{Node: 2}, {Node: 3}}, 1)
		if e != api.OK || plays != want {
			t.Error(mode, plays, e)
		}
	}
}

func TestTraceExample(t *testing.T) { // P8.5, and the eighth example of the whole
	f, _, e := trace.Trace(exampleBox(api.BoxFirst), []api.Subset{{Node: 1}}, 0)
	want := []api.Subset{{Node: 9}, {Node: 5}, {Node: 12}, {Node: 7}}
	if e != api.OK || !slices.Equal(f.Named, []int{0, 5}) || !slices.Equal(f.Subsets, want) || f.End != api.EndSilent {
		t.Error(f, e)
	}
	for _, mode := range modes() {
		f, _, e := trace.Trace(exampleBox(mode), []api.Subset{{Node: 1}}, 0)
		if e != api.OK || !slices.Equal(f.Named, []int{0, 5}) || f.End != api.EndSilent {
			t.Error(mode, f, e)
		}
	}
	if n, e := trace.Bound(scheme(api.SchemeSubtree, 3), 0); e != api.OK || n != 85 {
		t.Error(n, e)
	}
}

func TestFixedHybrid(t *testing.T) { // P8.4
	l := []api.Subset{{Node: 2, Minus: 4}, {Node: 3, Minus: 13}}
	h := must[api.Header](t)(trace.Hybrid(downKey(), scheme(api.SchemeDifference, 3), l, 1, api.Key{15: 7}))
	var got []string
	for _, item := range h.Items {
		got = append(got, cipher.Text(item.Box))
	}
	want := []string{"aa6505b6dc18993e2e18d54beaa8ea62", "afa4ed261e4158a177696c29dc3506fd", "5cb62b897079e29b9936a05b27cd87de"}
	if got = append(got, cipher.Text(h.Check)); !slices.Equal(got, want) {
		t.Errorf("%q", got)
	}
}

func TestFixedTraces(t *testing.T) { // P8.3, P8.5
	all := []api.Subset{{Node: 15, Minus: 31}, {Node: 7, Minus: 15}, {Node: 6, Minus: 12}, {Node: 12, Minus: 24}, {Node: 11, Minus: 23}, {Node: 5, Minus: 11}, {Node: 9, Minus: 18}, {Node: 4, Minus: 9}}
	for _, x := range []struct {
		noise, lives, asked, mixed int
		want                       api.Finding
		mixedAfter                 int
	}{
		{2, 8, 5, 0, api.Finding{Subsets: []api.Subset{{Node: 3, Minus: 6}, {Node: 3, Minus: 7}, {Node: 1, Minus: 3}}, Asked: 27, End: 2}, 12},
		{2, 0, 5, 0, api.Finding{Named: []int{2, 7, 8, 15}, Subsets: all, Asked: 211, End: 1}, 63},
		{1, 0, 6, 1, api.Finding{Named: []int{2, 7, 8, 15}, Subsets: all, Asked: 144, End: 1}, 43},
	} {
		b := api.Box{Scheme: scheme(api.SchemeLayered, 4), Coalition: []int{2, 7, 8, 15}, Mode: api.BoxOdd, Seed: downKey()}
		b.Noise, b.Lives, b.Asked, b.Mixed = x.noise, x.lives, x.asked, x.mixed
		f, after, e := trace.Trace(b, []api.Subset{{Node: 1}}, x.noise)
		b.Asked, b.Mixed = x.asked+x.want.Asked, x.mixedAfter
		if e != api.OK || !isSameFinding(f, x.want) || !isSameBox(after, b) {
			t.Errorf("%+v: %+v, %+v, %v", x, f, after, e)
		}
	}
}
