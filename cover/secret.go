package cover

import (
	"slices"

	"headend/api"
	"headend/cipher"
)

// nodeKey returns the key of a node.
func nodeKey(root api.Key, v node) api.Key {
	return cipher.Derive(root, api.TagNode, uint64(v))
}

// lower returns the label of (v, w) that is derived from the label of (v, m), where w is below m.
func lower(label api.Key, m, w node) api.Key {
	for n := range w.path(m.level() + 1) {
		tag := api.TagRight
		if n.isLeft() {
			tag = api.TagLeft
		}
		label = cipher.Derive(label, tag, 0)
	}
	return label
}

// labelFor returns the label of (v, w), or the key of the subset if w is noNode, as a receiver stores it.
func labelFor(root api.Key, s api.Scheme, x api.Subset) api.Label {
	v, w := node(x.Node), node(x.Minus)
	label := api.Label{Node: x.Node, Minus: x.Minus}
	switch {
	case s.Kind == api.SchemeSubtree:
		label.Key = nodeKey(root, v)
	case w == noNode:
		label.Key = cipher.Derive(root, api.TagAll, 0)
	default:
		label.Key = lower(nodeKey(root, v), v, w)
	}
	return label
}

// reach returns the key of a subset, from a label that leads to it.
func reach(label api.Label, x api.Subset) api.Key {
	if x.Minus == int(noNode) {
		return label.Key
	}
	last := lower(label.Key, node(label.Minus), node(x.Minus))
	return cipher.Derive(last, api.TagMiddle, 0)
}

// derivations returns how many derivations reach needs for a label with some nodes.
func derivations(place, x api.Subset) int {
	if x.Minus == int(noNode) {
		return 0
	}
	return node(x.Minus).level() - node(place.Minus).level() + 1
}

// leads reports whether a label with some nodes leads to the key of a subset x of the scheme.
func leads(s api.Scheme, place, x api.Subset) bool {
	if x.Minus == int(noNode) {
		return place == x
	}
	// The nodes of a label may be any numbers.
	m := node(place.Minus)
	return place.Node == x.Node && hasNode(s, m) && node(x.Node).isAbove(m) && m.isAbove(node(x.Minus))
}

func place(label api.Label) api.Subset {
	return api.Subset{Node: label.Node, Minus: label.Minus}
}

// places returns the nodes of the labels of a receiver.
func places(s api.Scheme, receiver int) []api.Subset {
	var l []api.Subset
	if s.Kind != api.SchemeSubtree {
		l = append(l, subset(rootNode, noNode))
	}
	for v := range leaf(s, receiver).path(0) {
		if s.Kind == api.SchemeSubtree {
			l = append(l, subset(v, noNode))
			continue
		}
		for p := range leaf(s, receiver).path(v.level() + 1) {
			if x := subset(v, p.sibling()); isSubset(s, x) {
				l = append(l, x)
			}
		}
	}
	return l
}

// Storage returns the number of labels of a secret.
func Storage(s api.Scheme) (int, api.Errno) {
	if e := Check(s); e != api.OK {
		return 0, e
	}
	return len(places(s, 0)), api.OK
}

// Secret returns the secret of a receiver.
func Secret(root api.Key, s api.Scheme, receiver int) (api.Secret, api.Errno) {
	if e := Check(s); e != api.OK {
		return api.Secret{}, e
	}
	if !isReceiver(s, receiver) {
		return api.Secret{}, api.ErrArg
	}
	secret := api.Secret{Receiver: receiver}
	for _, x := range places(s, receiver) {
		secret.Labels = append(secret.Labels, labelFor(root, s, x))
	}
	return secret, api.OK
}

// SubsetKey returns the key of a subset.
func SubsetKey(root api.Key, s api.Scheme, x api.Subset) (api.Key, api.Errno) {
	if e := checkSubset(s, x); e != api.OK {
		return api.Key{}, e
	}
	return reach(labelFor(root, s, x), x), api.OK
}

// Find returns the key of a subset to which a label of a secret leads.
func Find(s api.Scheme, c api.Secret, x api.Subset) (api.Key, api.Errno) {
	if e := checkSubset(s, x); e != api.OK {
		return api.Key{}, e
	}
	for _, label := range c.Labels {
		if leads(s, place(label), x) {
			return reach(label, x), api.OK
		}
	}
	return api.Key{}, api.ErrNone
}

// Work returns how many derivations Find needs.
func Work(s api.Scheme, receiver int, x api.Subset) (int, api.Errno) {
	if e := Check(s); e != api.OK {
		return 0, e
	}
	if !isReceiver(s, receiver) {
		return 0, api.ErrArg
	}
	if !isSubset(s, x) {
		return 0, api.ErrSubset
	}
	for _, p := range places(s, receiver) {
		if leads(s, p, x) {
			return derivations(p, x), api.OK
		}
	}
	return 0, api.ErrNone
}

// Knows reports whether a coalition knows the key of a subset.
func Knows(s api.Scheme, coalition []int, x api.Subset) (bool, api.Errno) {
	if e := Check(s); e != api.OK {
		return false, e
	}
	if !isList(s, coalition) {
		return false, api.ErrArg
	}
	if !isSubset(s, x) {
		return false, api.ErrSubset
	}
	// The members are those whose secrets lead to the key (P3.8), and are found without the labels.
	knows := slices.ContainsFunc(coalition, func(u int) bool { return isMember(s, u, x) })
	return knows, api.OK
}
