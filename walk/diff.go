package walk

import (
	"cmp"
	"math"
	"slices"

	"casemate/api"
	"casemate/mtree"
	"casemate/node"
	"casemate/shadow"
	"casemate/span"
)

// Change is a key of which two trees tell unlike things.
type Change struct {
	Key           uint64
	HasWas, HasIs bool
	Was, Is       [44]byte
}

// both is what was looked at of two trees.
type both struct {
	*shadow.Store
	shared  []api.Ref // parts that are not looked at
	changes map[uint64]Change
}

// Diff is the differences of two trees.
func Diff(s *shadow.Store, a, b *mtree.Tree) ([]Change, api.Errno) {
	if !isStore(s) || !isTree(a) || !isTree(b) {
		return nil, api.ErrNil
	}
	g := &both{Store: s, changes: map[uint64]Change{}}
	was, e := g.top(a)
	if e != api.OK {
		return nil, e
	}
	is, e := g.top(b)
	if e != api.OK {
		return nil, e
	}
	g.shared = slices.DeleteFunc(slices.Clone(was.Kids), func(r api.Ref) bool { return !slices.Contains(is.Kids, r) })
	if e := g.each(was, 0, math.MaxUint64, g.addWas); e != api.OK {
		return nil, e
	}
	if e := g.each(is, 0, math.MaxUint64, g.addIs); e != api.OK {
		return nil, e
	}
	return g.sorted(), api.OK
}

// top is the node of a tree's root; of a tree without pairs a leaf without keys.
func (g *both) top(t *mtree.Tree) (node.Node, api.Errno) {
	root, there := t.Root()
	if !there {
		return node.Node{Leaf: true}, api.OK
	}
	return g.Load(root)
}

// each hands on the pairs of a node, and of what is below it, whose keys are from from on to to and lead there.
func (g *both) each(n node.Node, from, to uint64, add func(key uint64, v [44]byte)) api.Errno {
	for i, v := range n.Vals {
		if key := n.Keys[i]; key >= from && key <= to {
			add(key, v)
		}
	}
	for i, r := range n.Kids {
		low, high, some := span.Of(n, i, from, to)
		if !some || slices.Contains(g.shared, r) {
			continue
		}
		kid, e := g.Load(r)
		if e != api.OK {
			return e
		}
		if e := g.each(kid, low, high, add); e != api.OK {
			return e
		}
	}
	return api.OK
}

// addWas adds a pair of the first tree.
func (g *both) addWas(key uint64, v [44]byte) {
	g.changes[key] = Change{Key: key, HasWas: true, Was: v}
}

// addIs adds a pair of the second tree. It is no difference, if the first one has it, too.
func (g *both) addIs(key uint64, v [44]byte) {
	c := g.changes[key]
	if c.HasWas && c.Was == v {
		delete(g.changes, key)
		return
	}
	c.Key, c.HasIs, c.Is = key, true, v
	g.changes[key] = c
}

// sorted is the differences by rising keys.
func (g *both) sorted() []Change {
	var l []Change
	for _, c := range g.changes {
		l = append(l, c)
	}
	slices.SortFunc(l, func(x, y Change) int { return cmp.Compare(x.Key, y.Key) })
	return l
}
