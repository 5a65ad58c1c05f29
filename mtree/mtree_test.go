package mtree_test

import (
	"math"
	"slices"
	"testing"

	"casemate/api"
	"casemate/mtree"
	"casemate/node"
	"casemate/shadow"
)

// P15.1, P15.2: a tree without pairs has no root, and needs no node.
func TestNew(t *testing.T) {
	_, s := laid(t, 20)
	x := mtree.New(s)
	if r, there := x.Root(); there || r != (api.Ref{}) {
		t.Errorf("Root: %v, %v", r, there)
	}
	if x.Store() != s {
		t.Error("Store: another one")
	}
	wantPairs(t, x, plain{})
	for _, key := range []uint64{0, 7, top} {
		wantGet(t, x, plain{}, key)
		del(t, x, plain{}, key)
	}
	wantHeld(t, s, 0, x)
	wantCode(t, "Free", x.Free(), api.OK)
}

// wantNone fails if a tree is not told to be none.
func wantNone(t *testing.T, x *mtree.Tree) {
	t.Helper()
	_, s := laid(t, 9)
	o, p := grown(t, s, 3)
	if r, there := x.Root(); there || r != (api.Ref{}) {
		t.Errorf("Root: %v, %v", r, there)
	}
	if x.Store() != nil {
		t.Error("Store: one")
	}
	if v, there, e := x.Get(1); there || v != [44]byte{} || e != api.ErrNil {
		t.Errorf("Get: %v, %v, %v", v, there, e)
	}
	for _, most := range []int{-1, 0, 1} {
		wantNoRange(t, x, 0, top, most, api.ErrNil)
		wantNoRange(t, x, 1, 0, most, api.ErrNil)
	}
	wantCode(t, "Put", x.Put(1, val(1)), api.ErrNil)
	if there, e := x.Del(1); there || e != api.ErrNil {
		t.Errorf("Del: %v, %v", there, e)
	}
	if x.Clone() != nil {
		t.Error("Clone: one")
	}
	wantCode(t, "Become", x.Become(o), api.ErrNil)
	wantCode(t, "Become", x.Become(x), api.ErrNil)
	wantSame(t, s, o, func() { wantCode(t, "Become of none", o.Become(x), api.ErrNil) })
	wantPairs(t, o, p)
	wantCode(t, "Free", x.Free(), api.ErrNil)
	if x.Store() != nil || x.Clone() != nil {
		t.Error("there is one now")
	}
}

// P15.1, P15.4, P1: trees that are nil, that no call made, or that were freed.
func TestNone(t *testing.T) {
	wantNone(t, nil)
	wantNone(t, &mtree.Tree{})
	_, s := laid(t, 60)
	x, _ := grown(t, s, 30)
	wantCode(t, "Free", x.Free(), api.OK)
	wantNone(t, x)
	empty := mtree.New(s)
	wantCode(t, "Free", empty.Free(), api.OK)
	wantNone(t, empty)
	if s.Used() != 0 {
		t.Errorf("the store keeps %d nodes", s.Used())
	}
}

// P15.1, P1: stores that are none can have no pair.
func TestNoStore(t *testing.T) {
	for _, s := range []*shadow.Store{nil, {}} {
		if x, e := mtree.Open(s, api.Ref{}); x != nil || e != api.ErrNil {
			t.Errorf("Open: %v, %v", x, e)
		}
		x := mtree.New(s)
		wantCode(t, "Put", x.Put(1, val(1)), api.ErrNil)
		wantPairs(t, x, plain{})
		del(t, x, plain{}, 1)
		wantCode(t, "Become", x.Become(x.Clone()), api.OK)
		wantCode(t, "Free", x.Free(), api.OK)
	}
}

// P15.1: Adopt's errors.
func TestOpenWrong(t *testing.T) {
	d, s := laid(t, 80)
	x, _ := grown(t, s, 60)
	root, _ := x.Root()
	wrong := func(r api.Ref, want api.Errno) {
		t.Helper()
		o := on(t, d)
		if y, e := mtree.Open(o, r); y != nil || e != want {
			t.Errorf("Open: %v, %v, want %v", y, e, want)
		}
		if o.Used() != 0 {
			t.Errorf("the store keeps %d nodes", o.Used())
		}
	}
	for _, sector := range []uint32{0, 1, 82, 83, 84, math.MaxUint32} {
		wrong(api.Ref{Sector: sector, Sum: root.Sum}, api.ErrArg)
	}
	wrong(api.Ref{Sector: root.Sector}, api.ErrIntegrity)
	wrong(api.Ref{}, api.ErrArg)
	for _, p := range parts(t, s, x) {
		turned(t, d, p.ref.Sector, func() { wrong(root, api.ErrIntegrity) })
	}
	r := leaves(t, s, x)[0].ref
	for range 40 {
		r, _ = s.Make(node.Node{Keys: []uint64{0, 9}, Kids: []api.Ref{r, r}})
	}
	wrong(r, api.ErrFull)
	wantCode(t, "Fail", d.Fail(0), api.OK)
	wantCode(t, "Flush", d.Flush(), api.ErrDown)
	wrong(root, api.ErrDown)
}

// P15.1, P15.9: what another store of the same sectors opens by the root is the same, and goes on by itself.
func TestOpen(t *testing.T) {
	for _, count := range []int{1, 9, 10, 300} {
		d, s := laid(t, 600)
		x, p := grown(t, s, count)
		root, _ := x.Root()
		o := on(t, d)
		y, e := mtree.Open(o, root)
		wantCode(t, "Open", e, api.OK)
		if r, there := y.Root(); r != root || !there || y.Store() != o {
			t.Errorf("Root: %v, %v, want %v", r, there, root)
		}
		wantPairs(t, y, p)
		wantHeld(t, o, 0, y)
		z, e := mtree.Open(o, root)
		wantCode(t, "Open", e, api.OK)
		wantCode(t, "Free", y.Free(), api.OK)
		wantPairs(t, z, p)
		wantCode(t, "Free", x.Free(), api.OK)
		for key := range p {
			put(t, z, p, key+1, val(7))
			break
		}
		wantPairs(t, z, p)
		wantHeld(t, o, 0, z)
		wantCode(t, "Free", z.Free(), api.OK)
		if o.Used() != 0 || s.Used() != 0 {
			t.Errorf("the stores keep %d and %d nodes", o.Used(), s.Used())
		}
	}
}

// P15.2: all ranges of a tree of one leaf that is full, and of greater ones; the least key and the greatest one.
func TestRange(t *testing.T) {
	for _, count := range []int{1, 4, 9, 10, 60} {
		_, s := laid(t, 200)
		x, p := grown(t, s, count)
		put(t, x, p, 0, val(500))
		put(t, x, p, top, val(501))
		edges := []uint64{0, 1, 9, 10, 11, 15, 50, 90, 95, 100, 101, 300, 600, 601, top - 1, top}
		for _, from := range edges {
			for _, to := range edges {
				for _, most := range []int{math.MinInt, -1, 0, 1, 2, 8, 9, 10, 62, math.MaxInt} {
					wantRange(t, x, from, to, most, p.between(from, to, most))
				}
			}
			wantGet(t, x, p, from)
		}
	}
}

// P15.2: what Range tells is new each time.
func TestRangeShares(t *testing.T) {
	_, s := laid(t, 60)
	x, p := grown(t, s, 12)
	l, _ := x.Range(0, top, 12)
	clear(l)
	wantPairs(t, x, p)
}

// P15.2: a node that is not as it was is told, if it is on the way, and else not; a range that breaks off, or is empty, asks for no more than it tells.
func TestTurnedOnTheWay(t *testing.T) {
	d, s := laid(t, 200)
	x, p := grown(t, s, 60)
	l := leaves(t, s, x)
	ahead := 0
	for i, leaf := range l {
		first, last := leaf.Keys[0], leaf.Keys[len(leaf.Keys)-1]
		turned(t, d, leaf.ref.Sector, func() {
			for key := range p {
				if key < first || key > last {
					wantGet(t, x, p, key)
				} else if v, there, e := x.Get(key); there || v != [44]byte{} || e != api.ErrIntegrity {
					t.Fatalf("Get(%d): %v, %v, %v", key, v, there, e)
				}
			}
			wantRange(t, x, 0, top, ahead, p.between(0, top, ahead))
			wantNoRange(t, x, 0, top, ahead+1, api.ErrIntegrity)
			wantNoRange(t, x, first, first, 1, api.ErrIntegrity)
			wantNoRange(t, x, last, last, math.MaxInt, api.ErrIntegrity)
			wantNoRange(t, x, first+1, top, 1, api.ErrIntegrity)
			if i > 0 {
				wantRange(t, x, 0, first-1, math.MaxInt, p.between(0, first-1, math.MaxInt))
			}
			if i+1 < len(l) {
				from := l[i+1].Keys[0]
				wantRange(t, x, from, top, math.MaxInt, p.between(from, top, math.MaxInt))
			}
		})
		ahead += len(leaf.Keys)
	}
	root, _ := x.Root()
	turned(t, d, root.Sector, func() {
		for key := range p {
			if _, there, e := x.Get(key); there || e != api.ErrIntegrity {
				t.Fatalf("Get: %v, %v", there, e)
			}
		}
		wantNoRange(t, x, 5, 5, 1, api.ErrIntegrity)
		wantNoRange(t, x, 5, 4, 1, api.OK)
		wantNoRange(t, x, 0, top, 0, api.OK)
	})
	wantPairs(t, x, p)
}

// P15.2: a disk that is down.
func TestDown(t *testing.T) {
	d, s := laid(t, 60)
	x, p := grown(t, s, 20)
	wantCode(t, "Flush", d.Flush(), api.OK)
	wantCode(t, "Fail", d.Fail(0), api.OK)
	failsPut(t, s, x, 10, api.ErrDown)
	if v, there, e := x.Get(10); there || v != [44]byte{} || e != api.ErrDown {
		t.Errorf("Get: %v, %v, %v", v, there, e)
	}
	wantNoRange(t, x, 0, top, 9, api.ErrDown)
	failsPut(t, s, x, 10, api.ErrDown)
	failsDel(t, s, x, 10, api.ErrDown)
	failsDel(t, s, x, 11, api.ErrDown)
	c := x.Clone()
	wantCode(t, "Become", x.Become(c), api.OK)
	wantCode(t, "Free", c.Free(), api.OK)
	wantCode(t, "Crash", d.Crash(nil), api.OK)
	wantPairs(t, x, p)
}

// P15.4: clones share all nodes with their tree, and so does what becomes another one.
func TestClone(t *testing.T) {
	_, s := laid(t, 400)
	for _, count := range []int{0, 1, 40} {
		x, p := grown(t, s, count)
		c := x.Clone()
		root, there := x.Root()
		if r, is := c.Root(); r != root || is != there || c.Store() != s {
			t.Errorf("a clone's root: %v, %v", r, is)
		}
		wantHeld(t, s, 0, x)
		q := plain{}
		for key, v := range p {
			q[key] = v
		}
		put(t, c, q, 15, val(1000))
		del(t, c, q, 20)
		wantPairs(t, x, p)
		wantPairs(t, c, q)
		wantHeld(t, s, 0, x, c)
		wantCode(t, "Become", x.Become(c), api.OK)
		wantPairs(t, x, q)
		wantHeld(t, s, 0, c)
		wantCode(t, "Become", x.Become(x), api.OK)
		wantPairs(t, x, q)
		wantCode(t, "Free", c.Free(), api.OK)
		wantPairs(t, x, q)
		wantHeld(t, s, 0, x)
		wantCode(t, "Become", x.Become(mtree.New(s)), api.OK)
		wantPairs(t, x, plain{})
		wantHeld(t, s, 0)
		wantCode(t, "Free", x.Free(), api.OK)
	}
}

// P15.4: a tree on another store, of the same sectors, too.
func TestBecomeElsewhere(t *testing.T) {
	d, s := laid(t, 60)
	x, p := grown(t, s, 20)
	root, _ := x.Root()
	other, e := mtree.Open(on(t, d), root)
	wantCode(t, "Open", e, api.OK)
	empty := mtree.New(other.Store())
	for _, o := range []*mtree.Tree{other, empty, mtree.New(nil)} {
		wantSame(t, s, x, func() { wantCode(t, "Become", x.Become(o), api.ErrArg) })
		wantCode(t, "Become", o.Become(x), api.ErrArg)
	}
	wantPairs(t, x, p)
	wantPairs(t, other, p)
	wantPairs(t, empty, plain{})
}

// P1, P15.4: a root that somebody else dropped cannot be held; nothing panics.
func TestDroppedRoot(t *testing.T) {
	_, s := laid(t, 60)
	x, p := grown(t, s, 20)
	c := x.Clone()
	root, _ := x.Root()
	wantCode(t, "Drop", s.Drop(root), api.OK)
	wantCode(t, "Drop", s.Drop(root), api.OK)
	if x.Clone() != nil {
		t.Error("there is a clone of what is gone")
	}
	wantCode(t, "Become", x.Become(c), api.ErrState)
	wantPairs(t, x, p)
	wantCode(t, "Put", x.Put(10, val(1)), api.ErrState)
	if there, e := x.Del(10); there || e != api.ErrState {
		t.Errorf("Del: %v, %v", there, e)
	}
	wantCode(t, "Free", x.Free(), api.OK)
	wantCode(t, "Free", c.Free(), api.OK)
}

// P15.8: behind Free of all trees, in any order, the store keeps nothing.
func TestFree(t *testing.T) {
	_, s := laid(t, 400)
	x, p := grown(t, s, 50)
	trees := []*mtree.Tree{x}
	for i := range 8 {
		c := trees[i/2].Clone()
		put(t, c, p, uint64(100*i+5), val(i))
		trees = append(trees, c)
	}
	slices.Reverse(trees[2:6])
	for i, c := range trees {
		wantCode(t, "Free", c.Free(), api.OK)
		wantHeld(t, s, 0, trees[i+1:]...)
	}
	if s.Used() != 0 {
		t.Errorf("the store keeps %d nodes", s.Used())
	}
}
