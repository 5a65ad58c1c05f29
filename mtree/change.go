package mtree

import (
	"slices"

	"casemate/api"
	"casemate/node"
)

// least is how many keys each node but the root has at least.
const least = 4

// part is a node that a change shall make. It is made when all of the change is known: so errors of Load are told ahead of those of Make.
type part struct {
	node.Node
	fresh []part // the new ones among its kids, whose places their first keys tell; of a half, those of both halves
}

// Put puts a pair.
func (t *Tree) Put(key uint64, v [44]byte) api.Errno {
	if !t.isMade() {
		return api.ErrNil
	}
	defer t.store.Sweep()
	n, e := t.top()
	if e != api.OK {
		return e
	}
	p, e := t.put(n, key, v)
	if e != api.OK {
		return e
	}
	return t.grow(p)
}

// Del takes a key away.
func (t *Tree) Del(key uint64) (bool, api.Errno) {
	if !t.isMade() {
		return false, api.ErrNil
	}
	defer t.store.Sweep()
	n, e := t.top()
	if e != api.OK {
		return false, e
	}
	p, there, e := t.del(n, key)
	if e != api.OK || !there {
		return false, e
	}
	if e := t.grow(p); e != api.OK {
		return false, e
	}
	return true, api.OK
}

// put is a node with a pair; it may have one key too many.
func (t *Tree) put(n node.Node, key uint64, v [44]byte) (part, api.Errno) {
	if n.Leaf {
		return part{Node: node.Put(n, key, v)}, api.OK
	}
	i := node.Way(n, key)
	kid, e := t.kid(n, i)
	if e != api.OK {
		return part{}, e
	}
	p, e := t.put(kid, key, v)
	if e != api.OK {
		return part{}, e
	}
	return above(n, i, i+1, p.fit()...), api.OK
}

// del is a node without a key, and whether it was there; it may have one key too few.
func (t *Tree) del(n node.Node, key uint64) (part, bool, api.Errno) {
	if n.Leaf {
		at, there := node.Find(n, key)
		return part{Node: node.Cut(n, at)}, there, api.OK
	}
	i := node.Way(n, key)
	kid, e := t.kid(n, i)
	if e != api.OK {
		return part{}, false, e
	}
	p, there, e := t.del(kid, key)
	switch {
	case e != api.OK || !there:
		return part{}, false, e
	case len(p.Keys) >= least:
		return above(n, i, i+1, p), true, api.OK
	}
	p, e = t.joined(n, i, p)
	return p, e == api.OK, e
}

// joined is a node whose kid at a place has too few keys, and is put together with the kid ahead of it, or behind it, if it is the first one.
func (t *Tree) joined(n node.Node, i int, p part) (part, api.Errno) {
	first := max(i-1, 0)
	other := first
	if i == 0 {
		other = 1
	}
	kid, e := t.kid(n, other)
	switch {
	case e != api.OK:
		return part{}, e
	case kid.Leaf != p.Leaf: // in no tree that is in order
		return part{}, api.ErrForm
	case i == 0:
		p.Node = node.Join(p.Node, kid)
	default:
		p.Node = node.Join(kid, p.Node)
	}
	return above(n, first, first+2, p.fit()...), api.OK
}

// kid loads a node's kid. The first key of one that is no leaf may be less than its key in the node, and than keys ahead of that: then it is set to that, so that keys rise wherever it comes to stand.
func (t *Tree) kid(n node.Node, i int) (node.Node, api.Errno) {
	kid, e := t.store.Load(n.Kids[i])
	if e == api.OK && !kid.Leaf && n.Keys[i] < kid.Keys[1] {
		kid.Keys[0] = max(kid.Keys[0], n.Keys[i])
	}
	return kid, e
}

// above is a node with new kids in the place of those from from on ahead of to.
func above(n node.Node, from, to int, kids ...part) part {
	keys := make([]uint64, len(kids))
	for i, kid := range kids {
		keys[i] = kid.Keys[0]
	}
	return part{
		Node: node.Node{
			Keys: slices.Concat(n.Keys[:from], keys, n.Keys[to:]),
			Kids: slices.Concat(n.Kids[:from], make([]api.Ref, len(kids)), n.Kids[to:]),
		},
		fresh: kids,
	}
}

// fit is a part, or both its halves, if it has too many keys.
func (p part) fit() []part {
	most := api.MaxKids
	if p.Leaf {
		most = api.MaxLeaf
	}
	if len(p.Keys) <= most {
		return []part{p}
	}
	a, b := node.Halve(p.Node)
	return []part{{a, p.fresh}, {b, p.fresh}}
}

// grow makes a part, and what is new below it, and plants that as the root. It may have so many keys that it gets one above it, or so few that it is none.
func (t *Tree) grow(p part) api.Errno {
	switch halves := p.fit(); {
	case len(p.Keys) == 0:
		return t.plant(nil)
	case len(p.Keys) == 1 && !p.Leaf:
		p = p.fresh[0]
	case len(halves) > 1:
		p = above(node.Node{}, 0, 0, halves...)
	}
	r, e := t.make(p)
	if e != api.OK {
		return e
	}
	return t.plant(&r)
}

// make makes a part, behind what is new below it.
func (t *Tree) make(p part) (api.Ref, api.Errno) {
	for _, kid := range p.fresh {
		at, mine := node.Find(p.Node, kid.Keys[0])
		if !mine {
			continue
		}
		r, e := t.make(kid)
		if e != api.OK {
			return api.Ref{}, e
		}
		p.Kids[at] = r
	}
	return t.store.Make(p.Node)
}
