package node

import (
	"math"
	"slices"
)

// spliced is a list of its own: l, with others in the place of what stands from from on ahead of to. Both may be past the end, since a node that is made by hand has lists of unlike lengths.
func spliced[T any](l []T, from, to int, others ...T) []T {
	return slices.Concat(l[:min(from, len(l))], others, l[min(to, len(l)):])
}

// without is a node of its own, without what stands from from on ahead of to.
func without(n Node, from, to int) Node {
	return Node{
		Leaf: n.Leaf,
		Keys: spliced(n.Keys, from, to),
		Vals: spliced(n.Vals, from, to),
		Kids: spliced(n.Kids, from, to),
	}
}

// whole tells whether something belongs to each key.
func whole(n Node) bool {
	if n.Leaf {
		return len(n.Vals) >= len(n.Keys)
	}
	return len(n.Kids) >= len(n.Keys)
}

// Put puts a value into a leaf. There is no other node that a value belongs to.
func Put(n Node, key uint64, v [44]byte) Node {
	if !n.Leaf || !whole(n) {
		return Node{}
	}
	at, there := Find(n, key)
	behind := at
	if there {
		behind++
	}
	return Node{
		Leaf: true,
		Keys: spliced(n.Keys, at, behind, key),
		Vals: spliced(n.Vals, at, behind, v),
		Kids: spliced(n.Kids, 0, 0),
	}
}

// Cut takes a key away.
func Cut(n Node, i int) Node {
	if !whole(n) {
		return Node{}
	}
	if i < 0 || i >= len(n.Keys) {
		return without(n, 0, 0)
	}
	return without(n, i, i+1)
}

// Halve is both halves of a node.
func Halve(n Node) (Node, Node) {
	if !whole(n) {
		return Node{}, Node{}
	}
	half := (len(n.Keys) + 1) / 2
	return without(n, half, math.MaxInt), without(n, 0, half)
}

// Join is two nodes as one, of the first one's kind.
func Join(a, b Node) Node {
	if !whole(a) || !whole(b) {
		return Node{}
	}
	return Node{
		Leaf: a.Leaf,
		Keys: slices.Concat(a.Keys, b.Keys),
		Vals: slices.Concat(a.Vals, b.Vals),
		Kids: slices.Concat(a.Kids, b.Kids),
	}
}
