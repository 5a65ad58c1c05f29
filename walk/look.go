package walk

import (
	"math"

	"casemate/api"
	"casemate/mtree"
	"casemate/node"
	"casemate/shadow"
)

// least is how many keys each node but the root has at least in a tree that is in order.
const least = 4

// Shape is how a tree is built.
type Shape struct{ Deep, Nodes, Leaves, Pairs int }

// sight is what was looked at of a tree.
type sight struct {
	*shadow.Store
	Shape
	seen  map[api.Ref]struct{}
	wrong bool // the tree is not in order
}

// Look is a tree's shape.
func Look(s *shadow.Store, t *mtree.Tree) (Shape, api.Errno) {
	if !isStore(s) || !isTree(t) {
		return Shape{}, api.ErrNil
	}
	root, there := t.Root()
	if !there {
		return Shape{}, api.OK
	}
	g := &sight{Store: s, seen: map[api.Ref]struct{}{}}
	if e := g.look(root, 1, 0, math.MaxUint64); e != api.OK {
		return Shape{}, e
	}
	if g.wrong {
		return Shape{}, api.ErrForm
	}
	return g.Shape, api.OK
}

// look looks at what a reference leads to, which is so deep, and whose keys shall be from from on to to. It goes on where the tree is not in order, since an error of Load is told ahead of that; but not where it was before: no tree that is in order has a node at two places.
func (g *sight) look(r api.Ref, deep int, from, to uint64) api.Errno {
	if _, again := g.seen[r]; again {
		g.wrong = true
		return api.OK
	}
	g.seen[r] = struct{}{}
	n, e := g.Load(r)
	if e != api.OK {
		return e
	}
	g.add(n, deep, from, to)
	for i, kid := range n.Kids {
		last := to
		if i+1 < len(n.Keys) {
			last = n.Keys[i+1] - 1
		}
		if e := g.look(kid, deep+1, n.Keys[i], last); e != api.OK {
			return e
		}
	}
	return api.OK
}

// add adds a node to the shape, and asks whether it may be there.
func (g *sight) add(n node.Node, deep int, from, to uint64) {
	count := len(n.Keys)
	if deep > 1 && count < least || n.Keys[0] < from || n.Keys[count-1] > to {
		g.wrong = true
	}
	g.Nodes++
	if !n.Leaf {
		return
	}
	if g.Leaves > 0 && g.Deep != deep {
		g.wrong = true
	}
	g.Leaves++
	g.Deep = deep
	g.Pairs += count
}
