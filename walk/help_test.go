package walk_test

import (
	"maps"
	"math"
	"slices"
	"testing"

	"casemate/api"
	"casemate/disk"
	"casemate/hashlog"
	"casemate/mtree"
	"casemate/node"
	"casemate/shadow"
	"casemate/walk"
)

const top = math.MaxUint64

// plain stands for a tree's pairs.
type plain map[uint64][44]byte

// list is its pairs by rising keys.
func (p plain) list() []mtree.Pair {
	var l []mtree.Pair
	for _, key := range slices.Sorted(maps.Keys(p)) {
		l = append(l, mtree.Pair{Key: key, Val: p[key]})
	}
	return l
}

// between is its pairs from one key on to another.
func (p plain) between(from, to uint64) []mtree.Pair {
	return slices.DeleteFunc(p.list(), func(x mtree.Pair) bool { return x.Key < from || x.Key > to })
}

// val is a value, unlike for each number below 65536.
func val(n int) [44]byte {
	v := [44]byte{1, byte(n), byte(n >> 8)}
	v[43] = byte(n + 1)
	return v
}

// laid is a disk, and a store of all its sectors but two at each end.
func laid(t *testing.T, count int) (*disk.Disk, *shadow.Store) {
	t.Helper()
	d, e := disk.New(count + 4)
	wantCode(t, "disk.New", e, api.OK)
	return d, on(t, d, 2, count)
}

// on is a store of some sectors of a disk.
func on(t *testing.T, d *disk.Disk, from, count int) *shadow.Store {
	t.Helper()
	s, e := shadow.New(d, from, count, hashlog.New())
	wantCode(t, "shadow.New", e, api.OK)
	return s
}

func wantCode(t *testing.T, what string, e, want api.Errno) {
	t.Helper()
	if e != want {
		t.Fatalf("%s: %v, want %v", what, e, want)
	}
}

func put(t *testing.T, x *mtree.Tree, p plain, key uint64, v [44]byte) {
	t.Helper()
	wantCode(t, "Put", x.Put(key, v), api.OK)
	p[key] = v
}

// grown is a tree of so many pairs, whose keys are 10, 20 and so on.
func grown(t *testing.T, s *shadow.Store, count int) (*mtree.Tree, plain) {
	t.Helper()
	x, p := mtree.New(s), plain{}
	for i := range count {
		put(t, x, p, uint64(10*i+10), val(i))
	}
	return x, p
}

func wantPairs(t *testing.T, x *mtree.Tree, p plain) {
	t.Helper()
	if l, e := x.Range(0, top, math.MaxInt); !slices.Equal(l, p.list()) || e != api.OK {
		t.Fatalf("Range: %v, %v, want %v", l, e, p.list())
	}
}

func wantShape(t *testing.T, s *shadow.Store, x *mtree.Tree, want walk.Shape) {
	t.Helper()
	if got, e := walk.Look(s, x); got != want || e != api.OK {
		t.Fatalf("Look: %v, %v, want %v", got, e, want)
	}
}

func wantNoShape(t *testing.T, s *shadow.Store, x *mtree.Tree, want api.Errno) {
	t.Helper()
	if got, e := walk.Look(s, x); got != (walk.Shape{}) || e != want {
		t.Fatalf("Look: %v, %v, want %v", got, e, want)
	}
}

// wantCount fails if a call does not tell a number.
func wantCount(t *testing.T, what string, want int) func(int, api.Errno) {
	t.Helper()
	return func(got int, e api.Errno) {
		t.Helper()
		if got != want || e != api.OK {
			t.Fatalf("%s: %d, %v, want %d", what, got, e, want)
		}
	}
}

// wantNoCount fails if a call does not tell an error.
func wantNoCount(t *testing.T, what string, want api.Errno) func(int, api.Errno) {
	t.Helper()
	return func(got int, e api.Errno) {
		t.Helper()
		if got != 0 || e != want {
			t.Fatalf("%s: %d, %v, want %v", what, got, e, want)
		}
	}
}

// changes is the differences of plain trees.
func changes(a, b plain) []walk.Change {
	all := maps.Clone(a)
	maps.Copy(all, b)
	var l []walk.Change
	for _, key := range slices.Sorted(maps.Keys(all)) {
		c := walk.Change{Key: key}
		c.Was, c.HasWas = a[key]
		c.Is, c.HasIs = b[key]
		if c.HasWas != c.HasIs || c.Was != c.Is {
			l = append(l, c)
		}
	}
	return l
}

func wantDiff(t *testing.T, s *shadow.Store, a, b *mtree.Tree, want []walk.Change) {
	t.Helper()
	if l, e := walk.Diff(s, a, b); !slices.Equal(l, want) || e != api.OK {
		t.Fatalf("Diff: %v, %v, want %v", l, e, want)
	}
}

func wantNoDiff(t *testing.T, s *shadow.Store, a, b *mtree.Tree, want api.Errno) {
	t.Helper()
	if l, e := walk.Diff(s, a, b); len(l) != 0 || e != want {
		t.Fatalf("Diff: %v, %v, want %v", l, e, want)
	}
}

// refs is the references of all nodes of a tree, each ahead of its kids.
func refs(t *testing.T, s *shadow.Store, x *mtree.Tree) []api.Ref {
	t.Helper()
	var l []api.Ref
	if root, there := x.Root(); there {
		l = []api.Ref{root}
	}
	for i := 0; i < len(l); i++ {
		n, e := s.Load(l[i])
		wantCode(t, "Load", e, api.OK)
		l = append(l, n.Kids...)
	}
	return l
}

// turned turns a sector, does something, and turns it back.
func turned(t *testing.T, d *disk.Disk, sector uint32, do func()) {
	t.Helper()
	was, e := d.Read(sector)
	wantCode(t, "Read", e, api.OK)
	noise := slices.Clone(was)
	noise[int(sector)%api.Sector] ^= 16
	wantCode(t, "Tamper", d.Tamper(sector, noise), api.OK)
	do()
	wantCode(t, "Tamper", d.Tamper(sector, was), api.OK)
}

// fill holds leaves of its own till so many sectors are free; what it has made can be dropped.
func fill(t *testing.T, s *shadow.Store, free int) []api.Ref {
	t.Helper()
	var l []api.Ref
	for {
		r, e := s.Make(node.Node{Leaf: true, Keys: []uint64{uint64(len(l))}, Vals: [][44]byte{{255}}})
		if e == api.ErrFull {
			break
		}
		wantCode(t, "Make", e, api.OK)
		wantCode(t, "Hold", s.Hold(r), api.OK)
		l = append(l, r)
	}
	drop(t, s, l[:free])
	return l[free:]
}

// drop drops what fill made.
func drop(t *testing.T, s *shadow.Store, l []api.Ref) {
	t.Helper()
	for _, r := range l {
		wantCode(t, "Drop", s.Drop(r), api.OK)
	}
}

// wantSame does something that must leave a tree and its store as they are.
func wantSame(t *testing.T, s *shadow.Store, x *mtree.Tree, do func()) {
	t.Helper()
	root, there := x.Root()
	used := s.Used()
	do()
	if r, is := x.Root(); r != root || is != there {
		t.Fatalf("the root is %v, %v, and was %v, %v", r, is, root, there)
	}
	if s.Used() != used || s.Sweep() != 0 {
		t.Fatalf("the store keeps %d nodes, and kept %d", s.Used(), used)
	}
}

// made makes a node that may be made.
func made(t *testing.T, s *shadow.Store, n node.Node) api.Ref {
	t.Helper()
	r, e := s.Make(n)
	wantCode(t, "Make", e, api.OK)
	return r
}

// leaf makes a leaf of these keys.
func leaf(t *testing.T, s *shadow.Store, keys ...uint64) api.Ref {
	t.Helper()
	return made(t, s, node.Node{Leaf: true, Keys: keys, Vals: make([][44]byte, len(keys))})
}

// rising makes a leaf of so many keys, from one on.
func rising(t *testing.T, s *shadow.Store, from uint64, count int) api.Ref {
	t.Helper()
	var keys []uint64
	for i := range uint64(count) {
		keys = append(keys, from+i)
	}
	return leaf(t, s, keys...)
}

// above makes a node of these keys and kids.
func above(t *testing.T, s *shadow.Store, keys []uint64, kids ...api.Ref) api.Ref {
	t.Helper()
	return made(t, s, node.Node{Keys: keys, Kids: kids})
}

// opened is the tree of a root.
func opened(t *testing.T, s *shadow.Store, r api.Ref) *mtree.Tree {
	t.Helper()
	x, e := mtree.Open(s, r)
	wantCode(t, "Open", e, api.OK)
	return x
}
