package smt

import (
	"math/bits"

	"bascule/api"
)

// node is a leaf, or a place where keys part; all nodes between two of these have one empty side, and are not kept.
// Hashes are kept till something beneath them changes, as reckoning one anew asks for up to 256 digests.
type node struct {
	key   api.Hash // the leaf's, or that of some leaf beneath
	fork  int      // the bit by which keys part; 256 of a leaf
	below [2]*node
	own   api.Hash // what stands at the depth fork
	told  bool     // whether own is known
	high  api.Hash // what stands at the depth level
	level int
	known bool // whether high and level are known
}

// bit answers bit i of a hash, the highest one first.
func bit(h api.Hash, i int) int { return int(h[i/8]>>(7-i%8)) & 1 }

// differ answers the first bit in which two hashes are unlike; 256 of the same.
func differ(a, b api.Hash) int {
	for i := range a {
		if x := a[i] ^ b[i]; x != 0 {
			return 8*i + bits.LeadingZeros8(x)
		}
	}
	return depth
}

// forget drops the hashes on the way to a key that is there.
func forget(n *node, key api.Hash) {
	for n != nil {
		n.told, n.known = false, false
		if n.fork == depth {
			return
		}
		n = n.below[bit(key, n.fork)]
	}
}

// with answers the tree n with a leaf of a key that was not there.
func with(n *node, key api.Hash) *node {
	if n == nil {
		return &node{key: key, fork: depth}
	}
	parts := differ(key, n.key)
	if parts < n.fork {
		up := &node{key: key, fork: parts}
		side := bit(key, parts)
		up.below[side] = &node{key: key, fork: depth}
		up.below[1-side] = n
		return up
	}
	n.told, n.known = false, false
	side := bit(key, n.fork)
	n.below[side] = with(n.below[side], key)
	return n
}

// without answers the tree n without the leaf of a key that is there.
func without(n *node, key api.Hash) *node {
	if n.fork == depth {
		return nil
	}
	side := bit(key, n.fork)
	rest := without(n.below[side], key)
	if rest == nil {
		return n.below[1-side]
	}
	n.below[side] = rest
	n.key = rest.key
	n.told, n.known = false, false
	return n
}

// here answers what stands at the node's own depth.
func (m *Map) here(n *node) api.Hash {
	if n.told {
		return n.own
	}
	if n.fork == depth {
		n.own = Leaf(n.key, m.values[n.key])
	} else {
		n.own = Above(m.above(n.below[0], n.fork+1), m.above(n.below[1], n.fork+1))
	}
	n.told = true
	return n.own
}

// climb answers what stands at a level above the node, all else there being empty.
func (m *Map) climb(n *node, level int) api.Hash {
	h := m.here(n)
	for i := n.fork - 1; i >= level; i-- {
		if bit(n.key, i) == 0 {
			h = Above(h, api.Hash{})
		} else {
			h = Above(api.Hash{}, h)
		}
	}
	return h
}

// above is climb, kept for the next time.
func (m *Map) above(n *node, level int) api.Hash {
	if n == nil {
		return api.Hash{}
	}
	if !n.known || n.level != level {
		n.high, n.level, n.known = m.climb(n, level), level, true
	}
	return n.high
}
