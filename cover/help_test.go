package cover_test

import (
	"encoding/hex"
	"math"
	"math/rand"
	"testing"

	"headend/api"
	"headend/cipher"
	"headend/cover"
)

const (
	subtree    = api.SchemeSubtree
	difference = api.SchemeDifference
	layered    = api.SchemeLayered
)

func kinds() []uint8 { return []uint8{subtree, difference, layered} }

func scheme(kind uint8, depth int) api.Scheme { return api.Scheme{Kind: kind, Depth: depth} }

// schemes returns all schemes that are valid.
func schemes() []api.Scheme {
	var l []api.Scheme
	for _, kind := range kinds() {
		for depth := range api.MaxDepth + 1 {
			l = append(l, scheme(kind, depth))
		}
	}
	return l
}

// wrongSchemes returns schemes that are not valid.
func wrongSchemes() []api.Scheme {
	return []api.Scheme{
		{},
		{Kind: 0, Depth: 3},
		{Kind: api.SchemePolynomial, Depth: 3},
		{Kind: api.SchemePolynomial, Depth: 3, Degree: 2, Group: api.Group{P: 23, Q: 11, G: 2}},
		{Kind: 5, Depth: 3},
		{Kind: 255, Depth: 3},
		{Kind: 1, Depth: -1},
		{Kind: 2, Depth: 7},
		{Kind: 2, Depth: 64},
		{Kind: 3, Depth: math.MaxInt},
		{Kind: 3, Depth: math.MinInt},
		{Kind: 1, Depth: 1 << 32},
		{Kind: 2, Depth: 3, Degree: 1},
		{Kind: 2, Depth: 3, Degree: -1},
		{Kind: 3, Depth: 3, Degree: math.MinInt},
		{Kind: 1, Depth: 3, Group: api.Group{P: 1}},
		{Kind: 2, Depth: 3, Group: api.Group{Q: 1}},
		{Kind: 3, Depth: 3, Group: api.Group{G: 1}},
	}
}

// wild returns numbers that are neither nodes nor receivers.
func wild() []int {
	return []int{
		-1, -2, -8, math.MinInt, math.MinInt + 1, math.MinInt32, -1 << 33,
		128, 129, 200, 255, 256, 257, math.MaxInt, math.MaxInt - 1, math.MaxInt32,
		1<<32 + 1, 1<<32 + 5, 1<<62 + 1, 1 << 62,
	}
}

func block(t *testing.T, s string) api.Key {
	t.Helper()
	b, err := hex.DecodeString(s)
	if err != nil || len(b) != 16 {
		t.Fatal("no block:", s)
	}
	return api.Key(b)
}

func random(r *rand.Rand) api.Key {
	var k api.Key
	r.Read(k[:])
	return k
}

// rootKey is the root key of the fixed values.
func rootKey(t *testing.T) api.Key { return block(t, "ffeeddccbbaa99887766554433221100") }

// someReceivers returns a list of receivers, each of which is in it with the chance 1 of odds.
func someReceivers(r *rand.Rand, depth, odds int) []int {
	var l []int
	for u := range 1 << depth {
		if r.Intn(odds) == 0 {
			l = append(l, u)
		}
	}
	return l
}

// lists returns lists of receivers of a tree: all of them if it is small, and else a few of many lengths.
func lists(depth int) [][]int {
	var ls [][]int
	if depth <= 3 {
		for set := range 1 << (1 << depth) {
			var l []int
			for u := range 1 << depth {
				if set>>u&1 == 1 {
					l = append(l, u)
				}
			}
			ls = append(ls, l)
		}
		return ls
	}
	r := rand.New(rand.NewSource(int64(depth)))
	ls = append(ls, nil, someReceivers(r, depth, 1))
	for u := range 1 << depth {
		ls = append(ls, []int{u}, []int{0, 1 + r.Intn(1<<depth-1)})
	}
	for i := range 150 {
		ls = append(ls, someReceivers(r, depth, 2+i%12))
	}
	return ls
}

// The functions below follow the chapter's terms, one node after the other.

func below(w, v int) bool { return w == v || w > v && below(w/2, v) }

func level(v int) int {
	if v == 1 {
		return 0
	}
	return 1 + level(v/2)
}

func special(depth, v int) bool {
	return level(v)%[]int{1, 1, 2, 2, 2, 3, 3}[depth] == 0
}

// firstSpecial returns the first special node strictly between v and w, or 0.
func firstSpecial(depth, v, w int) int {
	first := 0
	for m := w / 2; m != v; m /= 2 {
		if special(depth, m) {
			first = m
		}
	}
	return first
}

func isSubset(s api.Scheme, x api.Subset) bool {
	last := 1<<(s.Depth+1) - 1
	v, w := x.Node, x.Minus
	switch {
	case v < 1 || v > last || w < 0 || w > last:
		return false
	case s.Kind == subtree:
		return w == 0
	case w == 0:
		return v == 1
	case w == v || !below(w, v):
		return false
	}
	return s.Kind == difference || special(s.Depth, v) || firstSpecial(s.Depth, v, w) == 0
}

// subsets returns all subsets of a scheme.
func subsets(s api.Scheme) []api.Subset {
	var l []api.Subset
	for v := range 1 << (s.Depth + 1) {
		for w := range 1 << (s.Depth + 1) {
			if x := (api.Subset{Node: v, Minus: w}); isSubset(s, x) {
				l = append(l, x)
			}
		}
	}
	return l
}

// wrongSubsets returns values that are no subsets of a scheme: all near its nodes, and some far away.
func wrongSubsets(s api.Scheme) []api.Subset {
	var l []api.Subset
	add := func(v, w int) {
		if x := (api.Subset{Node: v, Minus: w}); !isSubset(s, x) {
			l = append(l, x)
		}
	}
	for v := -2; v < 2<<s.Depth+2; v++ {
		for w := -2; w < 2<<s.Depth+2; w++ {
			add(v, w)
		}
		for _, far := range wild() {
			add(v, far)
			add(far, v)
			add(far, far)
			add(far, 0)
		}
	}
	return l
}

func isMember(s api.Scheme, u int, x api.Subset) bool {
	return below(1<<s.Depth+u, x.Node) && (x.Minus == 0 || !below(1<<s.Depth+u, x.Minus))
}

func members(s api.Scheme, x api.Subset) []int {
	var l []int
	for u := range 1 << s.Depth {
		if isMember(s, u, x) {
			l = append(l, u)
		}
	}
	return l
}

// step returns the label of a child from that of its parent.
func step(label api.Key, child int) api.Key {
	return cipher.Derive(label, []uint8{api.TagLeft, api.TagRight}[child%2], 0)
}

func label(root api.Key, v, w int) api.Key {
	if w == v {
		return cipher.Derive(root, api.TagNode, uint64(v))
	}
	return step(label(root, v, w/2), w)
}

func subsetKey(root api.Key, s api.Scheme, x api.Subset) api.Key {
	if s.Kind == subtree {
		return cipher.Derive(root, api.TagNode, uint64(x.Node))
	}
	if x.Minus == 0 {
		return cipher.Derive(root, api.TagAll, 0)
	}
	return final(label(root, x.Node, x.Minus))
}

// final returns the key of (v, w) from its label.
func final(label api.Key) api.Key { return cipher.Derive(label, api.TagMiddle, 0) }

// must returns the result of a call that has no error.
func must[T any](t *testing.T) func(result T, e api.Errno) T {
	t.Helper()
	return func(result T, e api.Errno) T {
		t.Helper()
		if e != api.OK {
			t.Fatal("unexpected error:", e)
		}
		return result
	}
}

func secretOf(t *testing.T, root api.Key, s api.Scheme, u int) api.Secret {
	t.Helper()
	return must[api.Secret](t)(cover.Secret(root, s, u))
}
