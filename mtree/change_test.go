package mtree_test

import (
	"bytes"
	"math"
	"math/rand/v2"
	"slices"
	"testing"

	"casemate/api"
	"casemate/mtree"
	"casemate/node"
	"casemate/shadow"
)

// P15.3: the chapter's example; keys that are put twice, deleted twice, and not there.
func TestPutAndDel(t *testing.T) {
	_, s := laid(t, 60)
	x, p := mtree.New(s), plain{}
	put(t, x, p, 1, val(1))
	put(t, x, p, 2, val(2))
	del(t, x, p, 1)
	wantRange(t, x, 0, top, 9, []mtree.Pair{{Key: 2, Val: val(2)}})
	put(t, x, p, 2, val(3))
	put(t, x, p, 2, val(3))
	wantPairs(t, x, p)
	for range 2 {
		root, _ := x.Root()
		del(t, x, p, 1)
		if r, there := x.Root(); r != root || !there {
			t.Error("Del of a key that is not there changed the root")
		}
	}
	put(t, x, p, 0, val(4))
	put(t, x, p, top, val(5))
	wantPairs(t, x, p)
	wantHeld(t, s, 0, x)
	for _, key := range []uint64{top, 2, 0} {
		del(t, x, p, key)
		del(t, x, p, key)
		wantPairs(t, x, p)
		wantHeld(t, s, 0, x)
	}
	if _, there := x.Root(); there || s.Used() != 0 {
		t.Errorf("without pairs the tree has a root, or the store %d nodes", s.Used())
	}
	put(t, x, p, 7, val(6))
	wantPairs(t, x, p)
}

// P15.3: a leaf that is full becomes two below a root, and these one again; a root of as many kids as may be becomes two below another one.
func TestLevels(t *testing.T) {
	_, s := laid(t, 60)
	x, p := grown(t, s, 9)
	if deep(t, s, x) != 1 || s.Used() != 1 {
		t.Fatalf("9 pairs are %d deep", deep(t, s, x))
	}
	put(t, x, p, 45, val(1))
	if deep(t, s, x) != 2 || s.Used() != 3 {
		t.Fatalf("10 pairs are %d deep, in %d nodes", deep(t, s, x), s.Used())
	}
	wantOrder(t, s, x)
	wantPairs(t, x, p)
	del(t, x, p, 10)
	if deep(t, s, x) != 2 {
		t.Fatalf("9 pairs are %d deep", deep(t, s, x))
	}
	del(t, x, p, 20)
	if deep(t, s, x) != 1 || s.Used() != 1 {
		t.Fatalf("8 pairs are %d deep, in %d nodes", deep(t, s, x), s.Used())
	}
	wantPairs(t, x, p)
	for count, want := range map[int][2]int{59: {2, 12}, 60: {3, 15}} {
		_, s := laid(t, 60)
		x, p := grown(t, s, count)
		if deep(t, s, x) != want[0] || s.Used() != want[1] {
			t.Errorf("%d pairs are %d deep, in %d nodes", count, deep(t, s, x), s.Used())
		}
		wantPairs(t, x, p)
	}
}

// orders is in which orders keys are put, and deleted.
func orders(count int) [][]int {
	up := make([]int, count)
	for i := range up {
		up[i] = i
	}
	down := slices.Clone(up)
	slices.Reverse(down)
	var inward []int
	for i := range count {
		inward = append(inward, []int{i / 2, count - 1 - i/2}[i%2])
	}
	outward := slices.Clone(inward)
	slices.Reverse(outward)
	return [][]int{up, down, inward, outward, rand.New(rand.NewPCG(1, 2)).Perm(count)}
}

// P15.3, P15.5, P16.4: nodes that come to have too many or too few keys, at both ends, in the midst and beside each other, till the tree is as deep as four nodes, and back.
func TestOrders(t *testing.T) {
	const count = 700
	for _, puts := range orders(count) {
		for _, dels := range orders(count) {
			_, s := laid(t, 600)
			x, p := mtree.New(s), plain{}
			most := 0
			for step, i := range puts {
				put(t, x, p, uint64(3*i), val(i))
				if step%233 == 0 || step < 30 {
					wantOrder(t, s, x)
					wantHeld(t, s, 0, x)
				}
			}
			wantPairs(t, x, p)
			most = deep(t, s, x)
			for step, i := range dels {
				del(t, x, p, uint64(3*i))
				if step%233 == 0 || count-step < 30 {
					wantOrder(t, s, x)
					wantHeld(t, s, 0, x)
					wantPairs(t, x, p)
				}
			}
			if most < 4 || s.Used() != 0 {
				t.Fatalf("the tree was %d deep; the store keeps %d nodes", most, s.Used())
			}
		}
	}
}

// P15.3, P15.5: each Put and each Del of one key leaves a tree that is in order, with what it did, wherever the key stands.
func TestEachKey(t *testing.T) {
	for _, count := range []int{1, 9, 10, 19, 45, 80} {
		_, s := laid(t, 400)
		x, p := grown(t, s, count)
		for key := uint64(0); key <= uint64(10*count+10); key += 5 {
			for _, change := range []func(*mtree.Tree, plain){
				func(c *mtree.Tree, q plain) { put(t, c, q, key, val(9999)) },
				func(c *mtree.Tree, q plain) { del(t, c, q, key) },
			} {
				c, q := x.Clone(), plain{}
				for k, v := range p {
					q[k] = v
				}
				change(c, q)
				wantPairs(t, c, q)
				wantOrder(t, s, c)
				wantHeld(t, s, 0, x, c)
				wantCode(t, "Free", c.Free(), api.OK)
			}
		}
		wantPairs(t, x, p)
	}
}

// P15.3: what somebody made and nobody holds is loose, and gone behind a change, and behind one that fails; what is held stays.
func TestNothingLoose(t *testing.T) {
	leaf := node.Node{Leaf: true, Keys: []uint64{1}, Vals: [][44]byte{{9}}}
	_, s := laid(t, 5)
	x, p := grown(t, s, 3)
	held, e := s.Make(leaf)
	wantCode(t, "Make", e, api.OK)
	wantCode(t, "Hold", s.Hold(held), api.OK)
	loose := func() {
		t.Helper()
		_, e := s.Make(leaf)
		wantCode(t, "Make", e, api.OK)
	}
	for _, change := range []func(){
		func() { put(t, x, p, 10, val(7)) },
		func() { put(t, x, p, 5, val(8)) },
		func() { del(t, x, p, 20) },
		func() { del(t, x, p, 21) },
		func() {
			for range 2 {
				loose()
			}
			wantCode(t, "Put in a store that is full", x.Put(1, val(1)), api.ErrFull)
		},
	} {
		loose()
		change()
		wantHeld(t, s, 1, x)
		wantPairs(t, x, p)
	}
	if !s.Has(held.Sector) {
		t.Error("what was held is gone")
	}
}

// P15.3: a change needs a free sector for each node that is new, and no more; where one is missing the tree is as it was.
func TestFull(t *testing.T) {
	chance := rand.New(rand.NewPCG(3, 4))
	for _, count := range []int{0, 1, 9, 10, 40, 100, 150} {
		_, s := laid(t, 120)
		x, p := grown(t, s, count)
		for range 60 {
			key := uint64(chance.IntN(10*count + 20))
			_, there := p[key]
			change, fails := func(c *mtree.Tree) { wantCode(t, "Put", c.Put(key, val(1)), api.OK) }, failsPut
			if there && chance.IntN(3) > 0 {
				change, fails = func(c *mtree.Tree) { del(t, c, plain{key: {}}, key) }, failsDel
			}
			before := s.Used()
			c := x.Clone()
			change(c)
			needs := s.Used() - before
			wantCode(t, "Free", c.Free(), api.OK)
			l := fill(t, s)
			for i := range needs {
				fails(t, s, x, key, api.ErrFull)
				drop(t, s, l[i:i+1])
			}
			wantPairs(t, x, p)
			change(x)
			drop(t, s, l[needs:])
			p = plain{}
			now, e := x.Range(0, top, math.MaxInt)
			wantCode(t, "Range", e, api.OK)
			for _, pair := range now {
				p[pair.Key] = pair.Val
			}
			wantHeld(t, s, 0, x)
		}
	}
}

// P15.3: a key that is not there needs no room, nor does the last one.
func TestFullDel(t *testing.T) {
	_, s := laid(t, 60)
	x, p := grown(t, s, 30)
	one, q := grown(t, s, 1)
	l := fill(t, s)
	wantSame(t, s, x, func() { del(t, x, p, 15) })
	failsDel(t, s, x, 10, api.ErrFull)
	del(t, one, q, 10)
	wantPairs(t, one, plain{})
	wantPairs(t, x, p)
	drop(t, s, l)
}

// P15.3: a disk that goes down in the midst of a change: the tree is as it was, and behind a crash, too.
func TestDownInTheMidst(t *testing.T) {
	chance := rand.New(rand.NewPCG(5, 6))
	d, s := laid(t, 200)
	x, p := grown(t, s, 120)
	most := 0
	for range 90 {
		key := uint64(chance.IntN(1300))
		_, there := p[key]
		change := func() api.Errno {
			if !there {
				return x.Put(key, val(1))
			}
			is, e := x.Del(key)
			if is != (e == api.OK) {
				t.Fatalf("Del: %v, %v", is, e)
			}
			return e
		}
		calls, e := 0, api.ErrDown
		for e == api.ErrDown {
			wantCode(t, "Flush", d.Flush(), api.OK)
			wantCode(t, "Fail", d.Fail(calls), api.OK)
			root, _ := x.Root()
			used := s.Used()
			e = change()
			if r, _ := x.Root(); e != api.OK && (r != root || s.Used() != used || s.Sweep() > 0) {
				t.Fatalf("the root is %v, and was %v; the store keeps %d nodes, and kept %d", r, root, s.Used(), used)
			}
			if e == api.OK {
				break
			}
			wantCode(t, "Crash", d.Crash(nil), api.OK)
			wantPairs(t, x, p)
			wantHeld(t, s, 0, x)
			calls++
		}
		wantCode(t, "a change", e, api.OK)
		if delete(p, key); !there {
			p[key] = val(1)
		}
		most = max(most, calls)
		wantCode(t, "Crash", d.Crash(bytes.Repeat([]byte{255}, 100)), api.OK)
		wantPairs(t, x, p)
		wantHeld(t, s, 0, x)
	}
	if most < 4 {
		t.Errorf("no change needed more than %d nodes", most)
	}
}

// P15.3: whatever node a change replaces, on the way or beside it, is told, if it is not as it was, and that ahead of a store that is full; nodes elsewhere are not asked for.
func TestTurnedInTheMidst(t *testing.T) {
	d, s := laid(t, 300)
	x, p := grown(t, s, 250)
	beside := 0
	step := func(fails func(*testing.T, *shadow.Store, *mtree.Tree, uint64, api.Errno), key uint64, change func(*mtree.Tree, plain)) {
		t.Helper()
		old := replaced(t, s, x, func(c *mtree.Tree) { change(c, plain{key: {}}) })
		l := fill(t, s)
		for _, o := range old {
			turned(t, d, o.ref.Sector, func() { fails(t, s, x, key, api.ErrIntegrity) })
		}
		fails(t, s, x, key, api.ErrFull)
		drop(t, s, l)
		beside = max(beside, len(old)-deep(t, s, x))
		still := slices.DeleteFunc(parts(t, s, x), func(q part) bool {
			return slices.ContainsFunc(old, func(o part) bool { return o.ref == q.ref })
		})
		for i := 0; i < len(still); i += 7 {
			turned(t, d, still[i].ref.Sector, func() {
				c := x.Clone()
				change(c, plain{key: {}})
				wantCode(t, "Free", c.Free(), api.OK)
			})
		}
		change(x, p)
	}
	for i := range 120 {
		key := uint64(20*i + 10)
		step(failsDel, key, func(c *mtree.Tree, q plain) { del(t, c, q, key) })
		key += 1000
		step(failsPut, key, func(c *mtree.Tree, q plain) { put(t, c, q, key, val(i)) })
	}
	wantPairs(t, x, p)
	for _, pair := range p.list()[1:] {
		key := pair.Key
		step(failsDel, key, func(c *mtree.Tree, q plain) { del(t, c, q, key) })
	}
	wantPairs(t, x, p)
	if beside < 2 {
		t.Errorf("no more than %d nodes beside the way were asked for", beside)
	}
}
