package mtree_test

import (
	"math"
	"math/rand/v2"
	"testing"

	"casemate/api"
	"casemate/mtree"
	"casemate/node"
	"casemate/shadow"
)

// made makes a node that may be made.
func made(t *testing.T, s *shadow.Store, n node.Node) api.Ref {
	t.Helper()
	r, e := s.Make(n)
	wantCode(t, "Make", e, api.OK)
	return r
}

// opened is the tree of a root.
func opened(t *testing.T, s *shadow.Store, r api.Ref) *mtree.Tree {
	t.Helper()
	x, e := mtree.Open(s, r)
	wantCode(t, "Open", e, api.OK)
	return x
}

// leaf is a leaf of so many keys, from one on.
func leaf(from uint64, count int, p plain) node.Node {
	n := node.Node{Leaf: true}
	for i := range uint64(count) {
		p[from+i] = val(int(from + i))
		n.Keys, n.Vals = append(n.Keys, from+i), append(n.Vals, p[from+i])
	}
	return n
}

// slack makes a tree of 125 pairs by hand, three nodes deep, whose keys leave no room between one node and the next one; the keys of each node that is no leaf, or the first ones alone, are so much less than the least below them.
func slack(t *testing.T, s *shadow.Store, atRoot, atFirst, atOthers uint64) (*mtree.Tree, plain) {
	t.Helper()
	p, root := plain{}, node.Node{}
	for i := range uint64(5) {
		kid := node.Node{}
		for j := range uint64(5) {
			from := 1000 + 100*i + 20*j
			less := atOthers
			if j == 0 {
				less = atFirst
			}
			kid.Keys, kid.Kids = append(kid.Keys, from-less), append(kid.Kids, made(t, s, leaf(from, 5, p)))
		}
		root.Keys, root.Kids = append(root.Keys, kid.Keys[0]+atFirst-atRoot), append(root.Kids, made(t, s, kid))
	}
	return opened(t, s, made(t, s, root)), p
}

// P15.5: a node may have keys that are less than the least below it: what is put into such a tree, and deleted, is found, or not, all the same.
func TestSlack(t *testing.T) {
	for _, less := range [][3]uint64{{0, 0, 0}, {3, 3, 3}, {15, 15, 15}, {15, 0, 15}, {0, 15, 0}, {0, 90, 15}, {3, 99, 9}} {
		for seed := range uint64(4) {
			chance := rand.New(rand.NewPCG(seed, 11))
			_, s := laid(t, 400)
			x, p := slack(t, s, less[0], less[1], less[2])
			wantPairs(t, x, p)
			for step := range 300 {
				if key := 900 + chance.Uint64N(700); chance.IntN(3) == 0 {
					put(t, x, p, key, val(step))
				} else {
					del(t, x, p, key)
				}
				if step%20 == 0 {
					wantPairs(t, x, p)
					wantHeld(t, s, 0, x)
				}
			}
			for _, pair := range p.list() {
				del(t, x, p, pair.Key)
			}
			wantHeld(t, s, 0, x)
		}
	}
}

// P15.5: a leaf that is filled up and emptied ahead of all others, and kids of a root that come to stand in one node, where keys are less than the least below them.
func TestSlackEnds(t *testing.T) {
	for _, atFirst := range []uint64{0, 15, 90} {
		_, s := laid(t, 400)
		x, p := slack(t, s, 0, atFirst, 0)
		for i := range uint64(40) {
			put(t, x, p, 1005+i%15, val(int(i)))
			put(t, x, p, 990-i, val(int(i)))
			wantPairs(t, x, p)
		}
		for key := uint64(1500); key > 900; key-- {
			del(t, x, p, key)
		}
		wantPairs(t, x, p)
		wantHeld(t, s, 0, x)
	}
}

// P15.2, P15.5: keys that are less than all others lead to the first place, whatever key that has: a tree whose first keys are too great is a list all the same, and gets the right ones by what is put.
func TestFirstKeyTooGreat(t *testing.T) {
	_, s := laid(t, 100)
	p := plain{}
	kid := func(from uint64) api.Ref {
		n := node.Node{}
		for i := range uint64(4) {
			n.Keys, n.Kids = append(n.Keys, from+100*i), append(n.Kids, made(t, s, leaf(from+100*i, 5, p)))
		}
		return made(t, s, n)
	}
	for _, first := range []uint64{1000, 1001, 1050, 1150, 1500} {
		x := opened(t, s, made(t, s, node.Node{Keys: []uint64{first, 2000}, Kids: []api.Ref{kid(1000), kid(2000)}}))
		q := plain{}
		for key, v := range p {
			q[key] = v
		}
		wantPairs(t, x, q)
		for _, key := range []uint64{1250, 1150, 1350, 1002, 900, 2222} {
			put(t, x, q, key, val(1))
			wantPairs(t, x, q)
		}
		for key := uint64(899); key < 1500; key++ {
			del(t, x, q, key)
		}
		wantPairs(t, x, q)
	}
}

// tower makes nodes in one another, each of which has the one below twice: the topmost one.
func tower(t *testing.T, s *shadow.Store, r api.Ref, count int, keys func(i int) []uint64) api.Ref {
	t.Helper()
	for i := range count {
		r = made(t, s, node.Node{Keys: keys(i), Kids: []api.Ref{r, r}})
	}
	return r
}

// P1: trees that are not in order, which have more ways than can be gone: all calls end, and what is told is by rising keys.
func TestTower(t *testing.T) {
	for _, keys := range []func(int) []uint64{
		func(int) []uint64 { return []uint64{5, 9} },
		func(i int) []uint64 { return []uint64{0, uint64(i + 1)} },
		func(i int) []uint64 { return []uint64{uint64(i), math.MaxUint64 - uint64(i)} },
	} {
		_, s := laid(t, 9000) // a change makes all of the tower anew, and keeps what the other ways lead to
		p := plain{}
		bottom := made(t, s, leaf(3, 9, p))
		x := opened(t, s, tower(t, s, bottom, 150, keys))
		for key := range p {
			_, _, e := x.Get(key)
			wantCode(t, "Get", e, api.OK)
		}
		l, e := x.Range(0, top, math.MaxInt)
		wantCode(t, "Range", e, api.OK)
		for i, pair := range l {
			if v, there, e := x.Get(pair.Key); !there || v != pair.Val || e != api.OK || i > 0 && l[i-1].Key >= pair.Key {
				t.Fatalf("Range: %v", l)
			}
		}
		for key := range uint64(20) {
			for _, e := range []api.Errno{x.Put(key, val(1)), second(x.Del(key))} {
				if e != api.OK && e != api.ErrForm {
					t.Fatalf("a change: %v", e)
				}
			}
		}
		wantCode(t, "Free", x.Free(), api.OK)
		if s.Used() != 0 {
			t.Fatalf("the store keeps %d nodes", s.Used())
		}
	}
}

func second(_ bool, e api.Errno) api.Errno {
	return e
}

// P1: nodes that are deeper than those beside them, or have fewer keys than they may: no change panics, and one that cannot be done leaves all as it is.
func TestOddKids(t *testing.T) {
	_, s := laid(t, 60)
	p := plain{}
	one, two := made(t, s, leaf(10, 1, p)), made(t, s, leaf(20, 1, p))
	three, four := made(t, s, leaf(30, 1, p)), made(t, s, leaf(40, 9, p))
	low := made(t, s, node.Node{Keys: []uint64{20, 30}, Kids: []api.Ref{two, three}})
	x := opened(t, s, made(t, s, node.Node{Keys: []uint64{10, 20, 40}, Kids: []api.Ref{one, low, four}}))
	wantPairs(t, x, p)
	failsDel(t, s, x, 10, api.ErrForm)
	failsDel(t, s, x, 20, api.ErrForm)
	wantPairs(t, x, p)
	put(t, x, p, 25, val(1))
	put(t, x, p, 50, val(2))
	put(t, x, p, 0, val(3))
	del(t, x, p, 45)
	wantPairs(t, x, p)
	wantHeld(t, s, 0, x)

	p = plain{}
	one, two = made(t, s, leaf(10, 1, p)), made(t, s, leaf(20, 1, p))
	x.Become(opened(t, s, made(t, s, node.Node{Keys: []uint64{10, 20}, Kids: []api.Ref{one, two}})))
	del(t, x, p, 20)
	wantPairs(t, x, p)
	del(t, x, p, 10)
	wantPairs(t, x, p)
}

// P15.1, P15.3: a root at whose sector another node is kept.
func TestOtherNodeAtTheRoot(t *testing.T) {
	_, s := laid(t, 60)
	x, p := grown(t, s, 5)
	root, _ := x.Root()
	root.Sum[7] ^= 1
	y := opened(t, s, root)
	if _, there, e := y.Get(10); there || e != api.ErrIntegrity {
		t.Errorf("Get: %v, %v", there, e)
	}
	failsPut(t, s, y, 10, api.ErrIntegrity)
	failsDel(t, s, y, 10, api.ErrIntegrity)
	wantNoRange(t, y, 0, top, 9, api.ErrIntegrity)
	wantCode(t, "Free", y.Free(), api.OK)
	wantPairs(t, x, p)
	wantHeld(t, s, 0, x)
}
