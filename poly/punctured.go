package poly

import (
	"cmp"
	"iter"
	"math/bits"
	"slices"

	"headend/api"
	"headend/cipher"
)

// rootNode is the node of the full key.
const rootNode = 1

// isBelow reports whether a node w is below a node v.
func isBelow(w, v int) bool {
	for w > v {
		w /= 2
	}
	return w == v
}

// way yields the nodes strictly below v on the path from v to a node w below it.
func way(v, w int) iter.Seq[int] {
	return func(yield func(int) bool) {
		levels := bits.Len(uint(w)) - bits.Len(uint(v))
		for l := levels - 1; l >= 0; l-- {
			if !yield(w >> l) {
				return
			}
		}
	}
}

func sibling(v int) int { return v ^ 1 }

// childKey returns the node key of a child from that of its parent.
func childKey(parent api.Key, child int) api.Key {
	tag := api.TagLeft
	if child%2 == 1 {
		tag = api.TagRight
	}
	return cipher.Derive(parent, tag, 0)
}

// Full returns the punctured key that has all numbers.
func Full(k api.Key, depth int) (api.Punctured, api.Errno) {
	if !isDepth(depth) {
		return api.Punctured{}, api.ErrArg
	}
	return api.Punctured{Depth: depth, Labels: []api.Label{{Node: rootNode, Key: k}}}, api.OK
}

func isDepth(depth int) bool { return depth >= 0 && depth <= api.MaxDepth }

// CheckPunctured returns ErrBad unless a punctured key is valid.
func CheckPunctured(p api.Punctured) api.Errno {
	if !isDepth(p.Depth) {
		return api.ErrBad
	}
	last := rootNode - 1
	for i, label := range p.Labels {
		if label.Node <= last || label.Node >= 2<<p.Depth || label.Minus != 0 {
			return api.ErrBad
		}
		last = label.Node
		// A node that is below another one has the greater number of both.
		if holder(p.Labels[:i], label.Node) >= 0 {
			return api.ErrBad
		}
	}
	return api.OK
}

// holder returns the index of the first label whose node a node is below, or -1.
func holder(labels []api.Label, w int) int {
	return slices.IndexFunc(labels, func(label api.Label) bool { return isBelow(w, label.Node) })
}

// leafOf returns the leaf of a number, ErrBad unless the punctured key is valid, and ErrArg for a number outside of its tree.
func leafOf(p api.Punctured, n int) (int, api.Errno) {
	if e := CheckPunctured(p); e != api.OK {
		return 0, e
	}
	if n < 0 || n >= 1<<p.Depth {
		return 0, api.ErrArg
	}
	return 1<<p.Depth + n, api.OK
}

// Puncture returns a punctured key without a number.
func Puncture(p api.Punctured, n int) (api.Punctured, api.Errno) {
	leaf, e := leafOf(p, n)
	if e != api.OK {
		return api.Punctured{}, e
	}
	result := api.Punctured{Depth: p.Depth}
	for _, label := range p.Labels {
		if isBelow(leaf, label.Node) {
			result.Labels = append(result.Labels, beside(label, leaf)...)
		} else {
			result.Labels = append(result.Labels, label)
		}
	}
	slices.SortFunc(result.Labels, func(a, b api.Label) int { return cmp.Compare(a.Node, b.Node) })
	return result, api.OK
}

// beside returns the labels of the siblings on the way from a label's node to a leaf below it: they have what the label has, but the leaf.
func beside(label api.Label, leaf int) []api.Label {
	var labels []api.Label
	k := label.Key
	for v := range way(label.Node, leaf) {
		labels = append(labels, api.Label{Node: sibling(v), Key: childKey(k, sibling(v))})
		k = childKey(k, v)
	}
	return labels
}

// Evaluate returns the value of a number.
func Evaluate(p api.Punctured, n int) (api.Key, api.Errno) {
	leaf, e := leafOf(p, n)
	if e != api.OK {
		return api.Key{}, e
	}
	i := holder(p.Labels, leaf)
	if i < 0 {
		return api.Key{}, api.ErrNone
	}
	k := p.Labels[i].Key
	for v := range way(p.Labels[i].Node, leaf) {
		k = childKey(k, v)
	}
	return cipher.Derive(k, api.TagMiddle, 0), api.OK
}
