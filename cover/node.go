// Package cover is layer 3: broadcast encryption for the subsets of a tree of receivers. See shared/doc/03-cover.md.
package cover

import (
	"iter"
	"math/bits"
)

// node is a node of a tree, or noNode. Numbers from outside are checked with hasNode before a method is called.
type node int

const (
	noNode   node = 0
	rootNode node = 1
)

// level returns how far a node is from the root.
func (v node) level() int { return bits.Len(uint(v)) - 1 }

// at returns the node of a level on the path from the root to v.
func (v node) at(level int) node { return v >> (v.level() - level) }

// path yields the nodes from a level on, on the path from the root to v.
func (v node) path(level int) iter.Seq[node] {
	return func(yield func(node) bool) {
		for l := level; l <= v.level(); l++ {
			if !yield(v.at(l)) {
				return
			}
		}
	}
}

func (v node) parent() node  { return v / 2 }
func (v node) left() node    { return 2 * v }
func (v node) right() node   { return 2*v + 1 }
func (v node) sibling() node { return v ^ 1 }
func (v node) isLeft() bool  { return v%2 == 0 }

// isAbove reports whether w is below v; nothing is below noNode.
func (v node) isAbove(w node) bool {
	return v != noNode && v.level() <= w.level() && w.at(v.level()) == v
}

// leaves returns the leaves below v in a tree of some depth.
func (v node) leaves(depth int) []node {
	height := depth - v.level()
	var leaves []node
	for i := range node(1) << height {
		leaves = append(leaves, v<<height+i)
	}
	return leaves
}
