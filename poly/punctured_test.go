package poly_test

import (
	"math"
	"math/rand"
	"slices"
	"testing"

	"headend/api"
	"headend/cipher"
	"headend/poly"
)

// The functions below follow the chapter's terms, one node after the other.

func below(w, v int) bool { return w == v || v > 0 && w > v && below(w/2, v) }

// nodeKey returns the key of a node that is below one whose key is given.
func nodeKey(k api.Key, v, w int) api.Key {
	if w == v {
		return k
	}
	return cipher.Derive(nodeKey(k, v, w/2), []uint8{31, 32}[w%2], 0)
}

// valueFor returns the value of a number under a full key.
func valueFor(k api.Key, depth, n int) api.Key {
	return cipher.Derive(nodeKey(k, 1, 1<<depth+n), 33, 0)
}

// isValid follows the definition of a punctured key.
func isValid(p api.Punctured) bool {
	if p.Depth < 0 || p.Depth > 6 {
		return false
	}
	for i, a := range p.Labels {
		if a.Node < 1 || a.Node >= 1<<(p.Depth+1) || a.Minus != 0 || i > 0 && p.Labels[i-1].Node >= a.Node {
			return false
		}
		for j, b := range p.Labels {
			if i != j && below(a.Node, b.Node) {
				return false
			}
		}
	}
	return true
}

// punctured follows the description of Puncture.
func punctured(p api.Punctured, n int) api.Punctured {
	leaf := 1<<p.Depth + n
	result := api.Punctured{Depth: p.Depth}
	for node := range 2 << p.Depth {
		for _, l := range p.Labels {
			switch {
			case !below(leaf, l.Node) && node == l.Node:
				result.Labels = append(result.Labels, l)
			case below(leaf, l.Node) && node > l.Node && below(node, l.Node) && !below(leaf, node) && below(leaf, node/2):
				result.Labels = append(result.Labels, api.Label{Node: node, Key: nodeKey(l.Key, l.Node, node)})
			}
		}
	}
	return result
}

func isSamePunctured(a, b api.Punctured) bool {
	return a.Depth == b.Depth && slices.Equal(a.Labels, b.Labels)
}

func has(p api.Punctured, n int) bool {
	return slices.ContainsFunc(p.Labels, func(l api.Label) bool { return below(1<<p.Depth+n, l.Node) })
}

// withNodes returns a punctured key with labels for some nodes.
func withNodes(r *rand.Rand, depth int, nodes ...int) api.Punctured {
	p := api.Punctured{Depth: depth}
	for _, v := range nodes {
		p.Labels = append(p.Labels, api.Label{Node: v, Key: random(r)})
	}
	return p
}

// anyPunctured returns a punctured key that is valid, with any keys; often it is of no full key.
func anyPunctured(r *rand.Rand, depth int) api.Punctured {
	p, odds := api.Punctured{Depth: depth}, 2+r.Intn(8)
	for v := 1; v < 2<<depth; v++ {
		free := !slices.ContainsFunc(p.Labels, func(l api.Label) bool { return below(v, l.Node) })
		if free && r.Intn(odds) == 0 {
			p.Labels = append(p.Labels, api.Label{Node: v, Key: random(r)})
		}
	}
	return p
}

// wrongPunctured returns punctured keys that are not valid.
func wrongPunctured() []api.Punctured {
	r := rand.New(rand.NewSource(1))
	l := []api.Punctured{
		withNodes(r, 2, 0),
		withNodes(r, 2, 8),
		withNodes(r, 2, 1, 1),
		withNodes(r, 2, 3, 2),
		withNodes(r, 2, 1, 2),
		withNodes(r, 2, 1, 7),
		withNodes(r, 2, 3, 7),
		withNodes(r, 2, 2, 3, 5),
		withNodes(r, 2, 2, 6, 6),
		withNodes(r, 2, 4, 5, 7, 8),
		withNodes(r, 2, 0, 4, 5),
		withNodes(r, 2, 5, 3),
		withNodes(r, 0, 2),
		withNodes(r, 6, 1, 127),
		withNodes(r, 6, 128),
		{Depth: 2, Labels: make([]api.Label, 1000)},
	}
	for _, minus := range []int{1, 2, 4, -1, math.MinInt, math.MaxInt} {
		wrong := withNodes(r, 2, 2, 3)
		wrong.Labels[r.Intn(2)].Minus = minus
		l = append(l, wrong)
	}
	for _, far := range []int{-1, -2, math.MinInt, math.MaxInt, math.MaxInt - 1, 1 << 32, 1<<32 + 1, 1 << 62, 7, 8, 63, 64, 65} {
		l = append(l, api.Punctured{Depth: far}, withNodes(r, far, 1))
		if far < 1 || far > 7 {
			l = append(l, withNodes(r, 2, far), withNodes(r, 2, 2, far), withNodes(r, 2, far, 3))
		}
	}
	return l
}

func TestFull(t *testing.T) { // P4.5
	r := rand.New(rand.NewSource(2))
	for depth := range api.MaxDepth + 1 {
		k := random(r)
		want := api.Punctured{Depth: depth, Labels: []api.Label{{Node: 1, Key: k}}}
		if p, e := poly.Full(k, depth); e != api.OK || !isSamePunctured(p, want) {
			t.Errorf("%d: %+v, %v", depth, p, e)
		}
	}
	for _, depth := range []int{-1, 7, 8, 63, 64, 1 << 32, math.MaxInt, math.MinInt} {
		if p, e := poly.Full(random(r), depth); e != api.ErrArg || !isSamePunctured(p, api.Punctured{}) {
			t.Errorf("%d: %+v, %v", depth, p, e)
		}
	}
}

func TestCheckPunctured(t *testing.T) { // P4.5, R6
	r := rand.New(rand.NewSource(3))
	for depth := range api.MaxDepth + 1 {
		for range 100 {
			if p := anyPunctured(r, depth); poly.CheckPunctured(p) != api.OK {
				t.Errorf("%+v", p)
			}
		}
		leaves := api.Punctured{Depth: depth}
		for n := range 1 << depth {
			leaves.Labels = append(leaves.Labels, api.Label{Node: 1<<depth + n})
		}
		for _, p := range []api.Punctured{{Depth: depth}, {Depth: depth, Labels: []api.Label{}}, leaves} {
			if e := poly.CheckPunctured(p); e != api.OK {
				t.Errorf("%+v: %v", p, e)
			}
		}
	}
	for _, p := range wrongPunctured() {
		if e := poly.CheckPunctured(p); e != api.ErrBad {
			t.Errorf("%+v: %v", p, e)
		}
	}
}

func TestCheckPuncturedOfAllSmallKeys(t *testing.T) { // P4.5
	for depth := range 3 {
		for a := -1; a < 10; a++ {
			for b := -1; b < 10; b++ {
				for c := -1; c < 10; c++ {
					for minus := range 3 {
						p := api.Punctured{Depth: depth, Labels: []api.Label{{Node: a}, {Node: b}, {Node: c, Minus: max(0, minus-1)}}}
						p.Labels = p.Labels[:3-minus%2]
						want := api.ErrBad
						if isValid(p) {
							want = api.OK
						}
						if e := poly.CheckPunctured(p); e != want {
							t.Errorf("%+v: %v", p, e)
						}
					}
				}
			}
		}
	}
}

func TestPuncture(t *testing.T) { // P4.5, R6
	r := rand.New(rand.NewSource(4))
	for depth := range api.MaxDepth + 1 {
		for range 40 {
			p := anyPunctured(r, depth)
			for n := range 1 << depth {
				got, e := poly.Puncture(p, n)
				if want := punctured(p, n); e != api.OK || !isSamePunctured(got, want) {
					t.Fatalf("%+v, %d: %+v, %v, want %+v", p, n, got, e, want)
				}
				if !has(p, n) && !isSamePunctured(got, p) {
					t.Fatalf("%+v, %d: %+v", p, n, got)
				}
				if e := poly.CheckPunctured(got); e != api.OK {
					t.Fatalf("%+v, %d: %+v is not valid", p, n, got)
				}
			}
		}
	}
}

func TestEvaluate(t *testing.T) { // P4.5, R6
	r := rand.New(rand.NewSource(5))
	for depth := range api.MaxDepth + 1 {
		for range 40 {
			p := anyPunctured(r, depth)
			for n := range 1 << depth {
				want, found := api.Key{}, api.ErrNone
				for _, l := range p.Labels {
					if below(1<<depth+n, l.Node) {
						want, found = cipher.Derive(nodeKey(l.Key, l.Node, 1<<depth+n), 33, 0), api.OK
					}
				}
				if got, e := poly.Evaluate(p, n); got != want || e != found {
					t.Fatalf("%+v, %d: %x, %v", p, n, got, e)
				}
			}
		}
	}
}

func TestFixedValues(t *testing.T) { // P4.5
	for _, c := range []struct {
		depth, n int
		want     string
	}{
		{0, 0, "5374d640956547a7c946ef68773f344c"},
		{2, 0, "83ce3aea21a9aab891b44b1c198ac42e"},
		{2, 1, "547025f6244beca93bbf3001e514ef28"},
		{2, 2, "0c19f639974b6e196fbe5694f5ff478e"},
		{6, 0, "23f19c01c02581f8964af49c2ed5725e"},
		{6, 37, "c7499461562967215e662539d66ac44f"},
		{6, 63, "6527e39743b2510e166b0bd1f2c60d22"},
	} {
		p := must[api.Punctured](t)(poly.Full(rootKey(t), c.depth))
		if got, e := poly.Evaluate(p, c.n); e != api.OK || got != block(t, c.want) {
			t.Errorf("%+v: %x, %v", c, got, e)
		}
	}
	p := must[api.Punctured](t)(poly.Full(rootKey(t), 2))
	p = must[api.Punctured](t)(poly.Puncture(p, 1))
	want := []api.Label{{Node: 3, Key: block(t, "162d1d68c7c89f4fe70ff64015e3fe3d")}, {Node: 4, Key: block(t, "96883f8442ad78bdba893e1b5b9e3c82")}}
	if !slices.Equal(p.Labels, want) {
		t.Errorf("%x", p)
	}
}

func TestPuncturedErrors(t *testing.T) { // P4.5, R1, R2, R5
	r := rand.New(rand.NewSource(6))
	check := func(p api.Punctured, n int, want api.Errno) {
		t.Helper()
		if got, e := poly.Puncture(p, n); e != want || !isSamePunctured(got, api.Punctured{}) {
			t.Errorf("Puncture %+v, %d: %+v, %v", p, n, got, e)
		}
		if got, e := poly.Evaluate(p, n); e != want || got != (api.Key{}) {
			t.Errorf("Evaluate %+v, %d: %x, %v", p, n, got, e)
		}
	}
	for _, p := range wrongPunctured() {
		for _, n := range append(wild(), 0, 1, 3) {
			check(p, n, api.ErrBad)
		}
	}
	for depth := range api.MaxDepth + 1 {
		for _, n := range append(wild(), 1<<depth, 2<<depth) {
			check(api.Punctured{Depth: depth}, n, api.ErrArg)
			check(anyPunctured(r, depth), n, api.ErrArg)
			check(withNodes(r, depth, 1), n, api.ErrArg)
		}
	}
}

// nodes returns the nodes of a punctured key's labels.
func nodes(p api.Punctured) []int {
	var l []int
	for _, label := range p.Labels {
		l = append(l, label.Node)
	}
	return l
}

func TestPuncturedExamples(t *testing.T) { // P4.5, Examples
	k := rootKey(t)
	p := must[api.Punctured](t)(poly.Full(k, 2))
	for _, c := range []struct {
		n    int
		want []int
	}{{1, []int{3, 4}}, {3, []int{4, 6}}, {1, []int{4, 6}}, {0, []int{6}}, {2, nil}, {2, nil}} {
		p = must[api.Punctured](t)(poly.Puncture(p, c.n))
		if !slices.Equal(nodes(p), c.want) {
			t.Errorf("%+v: %v", c, nodes(p))
		}
	}
	p = must[api.Punctured](t)(poly.Full(k, 0))
	if got, e := poly.Evaluate(p, 0); e != api.OK || got != cipher.Derive(k, 33, 0) {
		t.Errorf("%x, %v", got, e)
	}
	if p, e := poly.Puncture(p, 0); e != api.OK || !isSamePunctured(p, api.Punctured{}) {
		t.Errorf("%+v, %v", p, e)
	}
	p = must[api.Punctured](t)(poly.Full(k, 2))
	p = must[api.Punctured](t)(poly.Puncture(p, 1))
	if got, e := poly.Evaluate(p, 1); e != api.ErrNone || got != (api.Key{}) {
		t.Errorf("%x, %v", got, e)
	}
	if got, e := poly.Evaluate(p, 4); e != api.ErrArg || got != (api.Key{}) {
		t.Errorf("%x, %v", got, e)
	}
}

// punctures returns a full key that is punctured at numbers in order.
func punctures(t *testing.T, k api.Key, depth int, numbers []int) api.Punctured {
	t.Helper()
	p := must[api.Punctured](t)(poly.Full(k, depth))
	for _, n := range numbers {
		p = must[api.Punctured](t)(poly.Puncture(p, n))
	}
	return p
}

func TestPunctures(t *testing.T) { // P4.9
	r := rand.New(rand.NewSource(7))
	for depth := range api.MaxDepth + 1 {
		for m := range 1<<depth + 1 {
			k := random(r)
			gone := r.Perm(1 << depth)[:m]
			p := punctures(t, k, depth, gone)
			if m > 0 && len(p.Labels) > m*depth {
				t.Errorf("%d, %v: %d labels", depth, gone, len(p.Labels))
			}
			for n := range 1 << depth {
				got, e := poly.Evaluate(p, n)
				out := slices.Contains(gone, n)
				if out && (e != api.ErrNone || got != api.Key{}) || !out && (e != api.OK || got != valueFor(k, depth, n)) {
					t.Errorf("%d, %v, %d: %x, %v", depth, gone, n, got, e)
				}
			}
			slices.Sort(gone)
			if q := punctures(t, k, depth, gone); !isSamePunctured(p, q) {
				t.Errorf("%d, %v: %+v, in another order %+v", depth, gone, p, q)
			}
			slices.Reverse(gone)
			if q := punctures(t, k, depth, append(gone, gone...)); !isSamePunctured(p, q) {
				t.Errorf("%d, %v: %+v, downwards and twice %+v", depth, gone, p, q)
			}
		}
	}
}
