package mtree

import (
	"iter"

	"casemate/api"
	"casemate/node"
	"casemate/span"
)

// Range is the pairs of some keys.
func (t *Tree) Range(from, to uint64, most int) ([]Pair, api.Errno) {
	if !t.isMade() {
		return nil, api.ErrNil
	}
	if most < 1 {
		return nil, api.OK
	}
	var l []Pair
	for p, e := range t.pairs(from, to) {
		if e != api.OK {
			return nil, e
		}
		l = append(l, p)
		if len(l) == most {
			break
		}
	}
	return l, api.OK
}

// pairs tells the pairs of some keys, by rising keys. An error comes with no pair, and is the last that comes. Nodes are loaded on the way, so that who breaks off asks for no more of them.
func (t *Tree) pairs(from, to uint64) iter.Seq2[Pair, api.Errno] {
	return func(tell func(Pair, api.Errno) bool) {
		if t.root != nil && from <= to {
			t.each(*t.root, from, to, tell)
		}
	}
}

// each tells the pairs below a reference; shall there be more? Each kid is asked for those keys alone that lead to it: so what is told is what Get tells, and comes to an end, whatever nodes somebody made by hand have as their kids.
func (t *Tree) each(r api.Ref, from, to uint64, tell func(Pair, api.Errno) bool) bool {
	n, e := t.store.Load(r)
	if e != api.OK {
		tell(Pair{}, e)
		return false
	}
	if n.Leaf {
		return leafPairs(n, from, to, tell)
	}
	for i, kid := range n.Kids {
		low, high, some := span.Of(n, i, from, to)
		if some && !t.each(kid, low, high, tell) {
			return false
		}
	}
	return true
}

// leafPairs tells a leaf's pairs; shall there be more?
func leafPairs(n node.Node, from, to uint64, tell func(Pair, api.Errno) bool) bool {
	at, _ := node.Find(n, from)
	for i := at; i < len(n.Keys) && n.Keys[i] <= to; i++ {
		if !tell(Pair{n.Keys[i], n.Vals[i]}, api.OK) {
			return false
		}
	}
	return true
}
