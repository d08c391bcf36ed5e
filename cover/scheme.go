package cover

import (
	"slices"

	"headend/api"
)

// Check returns ErrScheme unless a scheme is valid.
func Check(s api.Scheme) api.Errno {
	kind := s.Kind >= api.SchemeSubtree && s.Kind <= api.SchemeLayered
	depth := s.Depth >= 0 && s.Depth <= api.MaxDepth
	if !kind || !depth || s.Degree != 0 || s.Group != (api.Group{}) {
		return api.ErrScheme
	}
	return api.OK
}

// checkSubset returns Check's error, and ErrSubset unless x is a subset of the scheme.
func checkSubset(s api.Scheme, x api.Subset) api.Errno {
	if e := Check(s); e != api.OK {
		return e
	}
	if !isSubset(s, x) {
		return api.ErrSubset
	}
	return api.OK
}

// The functions below take a scheme that is valid.

func hasNode(s api.Scheme, w node) bool { return w >= rootNode && w < 2<<s.Depth }

func isReceiver(s api.Scheme, u int) bool { return u >= 0 && u < 1<<s.Depth }

// leaf returns the leaf of a receiver.
func leaf(s api.Scheme, u int) node { return 1<<s.Depth + node(u) }

// isList reports whether some numbers are a list of receivers.
func isList(s api.Scheme, l []int) bool {
	last := -1
	for _, u := range l {
		if u <= last || !isReceiver(s, u) {
			return false
		}
		last = u
	}
	return true
}

func isSpecial(s api.Scheme, w node) bool {
	stride := 1
	for stride*stride < s.Depth {
		stride++
	}
	return w.level()%stride == 0
}

// firstSpecial returns the first special node strictly between v and w, or noNode.
func firstSpecial(s api.Scheme, v, w node) node {
	for m := range w.parent().path(v.level() + 1) {
		if isSpecial(s, m) {
			return m
		}
	}
	return noNode
}

func isSubset(s api.Scheme, x api.Subset) bool {
	v, w := node(x.Node), node(x.Minus)
	switch {
	case !hasNode(s, v):
		return false
	case s.Kind == api.SchemeSubtree:
		return w == noNode
	case w == noNode:
		return v == rootNode
	case !hasNode(s, w) || w == v || !v.isAbove(w):
		return false
	}
	return s.Kind == api.SchemeDifference || isSpecial(s, v) || firstSpecial(s, v, w) == noNode
}

func subset(v, w node) api.Subset { return api.Subset{Node: int(v), Minus: int(w)} }

func isMember(s api.Scheme, u int, x api.Subset) bool {
	l := leaf(s, u)
	return node(x.Node).isAbove(l) && !node(x.Minus).isAbove(l)
}

// Members returns the members of a subset.
func Members(s api.Scheme, x api.Subset) ([]int, api.Errno) {
	if e := checkSubset(s, x); e != api.OK {
		return nil, e
	}
	leaves := node(x.Node).leaves(s.Depth)
	leaves = slices.DeleteFunc(leaves, node(x.Minus).isAbove)
	members := make([]int, len(leaves))
	for i, l := range leaves {
		members[i] = int(l - leaf(s, 0))
	}
	return members, api.OK
}
