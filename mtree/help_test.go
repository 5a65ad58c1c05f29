package mtree_test

import (
	"maps"
	"math"
	"slices"
	"testing"

	"casemate/api"
	"casemate/disk"
	"casemate/hashlog"
	"casemate/mtree"
	"casemate/node"
	"casemate/shadow"
)

const top = math.MaxUint64

// plain stands for a tree's pairs.
type plain map[uint64][44]byte

// list is its pairs by rising keys.
func (p plain) list() []mtree.Pair {
	var l []mtree.Pair
	for _, key := range slices.Sorted(maps.Keys(p)) {
		l = append(l, mtree.Pair{Key: key, Val: p[key]})
	}
	return l
}

// between is what Range should tell.
func (p plain) between(from, to uint64, most int) []mtree.Pair {
	l := slices.DeleteFunc(p.list(), func(x mtree.Pair) bool { return x.Key < from || x.Key > to })
	return l[:min(len(l), max(most, 0))]
}

// val is a value, unlike for each number below 65536.
func val(n int) [44]byte {
	v := [44]byte{1, byte(n), byte(n >> 8)}
	v[43] = byte(n + 1)
	return v
}

// laid is a disk, and a store of all its sectors but two at each end.
func laid(t *testing.T, count int) (*disk.Disk, *shadow.Store) {
	t.Helper()
	d, e := disk.New(count + 4)
	wantCode(t, "disk.New", e, api.OK)
	return d, on(t, d)
}

// on is another store of the same sectors as laid has.
func on(t *testing.T, d *disk.Disk) *shadow.Store {
	t.Helper()
	s, e := shadow.New(d, 2, d.Size()-4, hashlog.New())
	wantCode(t, "shadow.New", e, api.OK)
	return s
}

func wantCode(t *testing.T, what string, e, want api.Errno) {
	t.Helper()
	if e != want {
		t.Fatalf("%s: %v, want %v", what, e, want)
	}
}

func put(t *testing.T, x *mtree.Tree, p plain, key uint64, v [44]byte) {
	t.Helper()
	wantCode(t, "Put", x.Put(key, v), api.OK)
	p[key] = v
}

func del(t *testing.T, x *mtree.Tree, p plain, key uint64) {
	t.Helper()
	_, want := p[key]
	if there, e := x.Del(key); there != want || e != api.OK {
		t.Fatalf("Del(%d): %v, %v", key, there, e)
	}
	delete(p, key)
}

func wantGet(t *testing.T, x *mtree.Tree, p plain, key uint64) {
	t.Helper()
	want, is := p[key]
	if v, there, e := x.Get(key); v != want || there != is || e != api.OK {
		t.Fatalf("Get(%d): %v, %v, %v", key, v, there, e)
	}
}

func wantRange(t *testing.T, x *mtree.Tree, from, to uint64, most int, want []mtree.Pair) {
	t.Helper()
	if l, e := x.Range(from, to, most); !slices.Equal(l, want) || e != api.OK {
		t.Fatalf("Range(%d, %d, %d): %v, %v, want %v", from, to, most, l, e, want)
	}
}

func wantNoRange(t *testing.T, x *mtree.Tree, from, to uint64, most int, want api.Errno) {
	t.Helper()
	if l, e := x.Range(from, to, most); len(l) != 0 || e != want {
		t.Fatalf("Range(%d, %d, %d): %v, %v, want %v", from, to, most, l, e, want)
	}
}

// wantPairs fails if a tree has not just these pairs.
func wantPairs(t *testing.T, x *mtree.Tree, p plain) {
	t.Helper()
	wantRange(t, x, 0, top, math.MaxInt, p.list())
	for key := range p {
		wantGet(t, x, p, key)
	}
}

// grown is a tree of so many pairs, whose keys are 10, 20 and so on.
func grown(t *testing.T, s *shadow.Store, count int) (*mtree.Tree, plain) {
	t.Helper()
	x, p := mtree.New(s), plain{}
	for i := range count {
		put(t, x, p, uint64(10*i+10), val(i))
	}
	return x, p
}

// part is a node of a tree, and where it stands.
type part struct {
	node.Node
	ref  api.Ref
	deep int
}

// parts is all nodes of a tree, each ahead of its kids.
func parts(t *testing.T, s *shadow.Store, x *mtree.Tree) []part {
	t.Helper()
	var l []part
	if root, there := x.Root(); there {
		l = []part{{ref: root, deep: 1}}
	}
	for i := 0; i < len(l); i++ {
		n, e := s.Load(l[i].ref)
		wantCode(t, "Load", e, api.OK)
		l[i].Node = n
		for _, kid := range n.Kids {
			l = append(l, part{ref: kid, deep: l[i].deep + 1})
		}
	}
	return l
}

// leaves is a tree's leaves, in order.
func leaves(t *testing.T, s *shadow.Store, x *mtree.Tree) []part {
	t.Helper()
	l := slices.DeleteFunc(parts(t, s, x), func(p part) bool { return !p.Leaf })
	slices.SortFunc(l, func(a, b part) int { return int(a.Keys[0] - b.Keys[0]) })
	return l
}

// deep is how deep a tree's leaves are, all of which must be as deep.
func deep(t *testing.T, s *shadow.Store, x *mtree.Tree) int {
	t.Helper()
	deep := 0
	for _, leaf := range leaves(t, s, x) {
		if deep > 0 && leaf.deep != deep {
			t.Fatalf("leaves are %d and %d deep", deep, leaf.deep)
		}
		deep = leaf.deep
	}
	return deep
}

// spread is the least and the greatest key in the leaves below a node.
func spread(t *testing.T, s *shadow.Store, r api.Ref) (uint64, uint64) {
	t.Helper()
	n, e := s.Load(r)
	wantCode(t, "Load", e, api.OK)
	if n.Leaf {
		return n.Keys[0], n.Keys[len(n.Keys)-1]
	}
	low, _ := spread(t, s, n.Kids[0])
	_, high := spread(t, s, n.Kids[len(n.Kids)-1])
	return low, high
}

// wantOrder fails if a tree is none.
func wantOrder(t *testing.T, s *shadow.Store, x *mtree.Tree) {
	t.Helper()
	deep(t, s, x)
	for _, p := range parts(t, s, x) {
		if p.deep > 1 && len(p.Keys) < 4 {
			t.Fatalf("a node has the keys %v alone", p.Keys)
		}
		for i, kid := range p.Kids {
			low, high := spread(t, s, kid)
			if p.Keys[i] > low || i+1 < len(p.Keys) && p.Keys[i+1] <= high {
				t.Fatalf("at the place %d of %v there are the keys from %d on to %d", i, p.Keys, low, high)
			}
		}
	}
}

// wantHeld fails if a store keeps other nodes than those of these trees and some more that are held, or has some that are loose.
func wantHeld(t *testing.T, s *shadow.Store, more int, trees ...*mtree.Tree) {
	t.Helper()
	held := map[uint32]api.Ref{}
	for _, x := range trees {
		for _, p := range parts(t, s, x) {
			held[p.ref.Sector] = p.ref
		}
	}
	if s.Used() != len(held)+more {
		t.Fatalf("the store keeps %d nodes, want %d", s.Used(), len(held)+more)
	}
	for sector := range held {
		if !s.Has(sector) {
			t.Fatalf("the node at %d is gone", sector)
		}
	}
	if n := s.Sweep(); n != 0 {
		t.Fatalf("%d nodes are loose", n)
	}
}

// wantSame does something that must leave a tree and its store as they are.
func wantSame(t *testing.T, s *shadow.Store, x *mtree.Tree, do func()) {
	t.Helper()
	root, there := x.Root()
	used := s.Used()
	do()
	if r, is := x.Root(); r != root || is != there {
		t.Fatalf("the root is %v, %v, and was %v, %v", r, is, root, there)
	}
	if s.Used() != used || there && !s.Has(root.Sector) {
		t.Fatalf("the store keeps %d nodes, and kept %d", s.Used(), used)
	}
	if n := s.Sweep(); n != 0 {
		t.Fatalf("%d nodes are loose", n)
	}
}

// failsPut fails if Put does not tell an error and leave all as it is.
func failsPut(t *testing.T, s *shadow.Store, x *mtree.Tree, key uint64, want api.Errno) {
	t.Helper()
	wantSame(t, s, x, func() { wantCode(t, "Put", x.Put(key, val(9)), want) })
}

// failsDel fails if Del does not tell an error and leave all as it is.
func failsDel(t *testing.T, s *shadow.Store, x *mtree.Tree, key uint64, want api.Errno) {
	t.Helper()
	wantSame(t, s, x, func() {
		if there, e := x.Del(key); there || e != want {
			t.Fatalf("Del(%d): %v, %v, want %v", key, there, e, want)
		}
	})
}

// fill holds leaves of its own till a store has no room; what it has made can be dropped.
func fill(t *testing.T, s *shadow.Store) []api.Ref {
	t.Helper()
	var l []api.Ref
	for {
		r, e := s.Make(node.Node{Leaf: true, Keys: []uint64{uint64(len(l))}, Vals: [][44]byte{{255}}})
		if e == api.ErrFull {
			return l
		}
		wantCode(t, "Make", e, api.OK)
		wantCode(t, "Hold", s.Hold(r), api.OK)
		l = append(l, r)
	}
}

// drop drops what fill made.
func drop(t *testing.T, s *shadow.Store, l []api.Ref) {
	t.Helper()
	for _, r := range l {
		wantCode(t, "Drop", s.Drop(r), api.OK)
	}
}

// turned turns a sector, does something, and turns it back.
func turned(t *testing.T, d *disk.Disk, sector uint32, do func()) {
	t.Helper()
	was, e := d.Read(sector)
	wantCode(t, "Read", e, api.OK)
	noise := slices.Clone(was)
	noise[int(sector)%api.Sector] ^= 16
	wantCode(t, "Tamper", d.Tamper(sector, noise), api.OK)
	do()
	wantCode(t, "Tamper", d.Tamper(sector, was), api.OK)
}

// replaced is the nodes of a tree that a change replaces: it is done to a clone.
func replaced(t *testing.T, s *shadow.Store, x *mtree.Tree, change func(c *mtree.Tree)) []part {
	t.Helper()
	c := x.Clone()
	change(c)
	still := map[api.Ref]int{}
	for _, p := range parts(t, s, c) {
		still[p.ref] = 1
	}
	wantCode(t, "Free", c.Free(), api.OK)
	return slices.DeleteFunc(parts(t, s, x), func(p part) bool { return still[p.ref] > 0 })
}
