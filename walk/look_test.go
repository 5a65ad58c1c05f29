package walk_test

import (
	"math"
	"math/rand/v2"
	"testing"

	"casemate/api"
	"casemate/hashlog"
	"casemate/mtree"
	"casemate/shadow"
	"casemate/walk"
)

// P16.1: the chapter's example; trees without pairs, of one leaf that is full, and of more.
func TestLook(t *testing.T) {
	_, s := laid(t, 300)
	for count, want := range map[int]walk.Shape{
		0:  {},
		1:  {Deep: 1, Nodes: 1, Leaves: 1, Pairs: 1},
		9:  {Deep: 1, Nodes: 1, Leaves: 1, Pairs: 9},
		10: {Deep: 2, Nodes: 3, Leaves: 2, Pairs: 10},
	} {
		x, _ := grown(t, s, count)
		wantShape(t, s, x, want)
	}
	x, _ := grown(t, s, 400)
	sh, e := walk.Look(s, x)
	if e != api.OK || sh.Deep < 3 || sh.Pairs != 400 || sh.Nodes != len(refs(t, s, x)) || sh.Leaves < 45 || sh.Leaves >= sh.Nodes {
		t.Errorf("Look: %v, %v", sh, e)
	}
}

// none is trees and stores that are none.
func none(t *testing.T) ([]*mtree.Tree, []*shadow.Store) {
	t.Helper()
	_, s := laid(t, 60)
	freed, _ := grown(t, s, 20)
	wantCode(t, "Free", freed.Free(), api.OK)
	return []*mtree.Tree{nil, {}, freed}, []*shadow.Store{nil, {}}
}

// P16.1 to P16.3, P1: trees and stores that are nil, that no call made, or that were freed.
func TestNone(t *testing.T) {
	_, s := laid(t, 60)
	x, _ := grown(t, s, 20)
	trees, stores := none(t)
	for _, y := range trees {
		wantNoShape(t, s, y, api.ErrNil)
		wantNoDiff(t, s, x, y, api.ErrNil)
		wantNoDiff(t, s, y, x, api.ErrNil)
		wantNoDiff(t, s, y, y, api.ErrNil)
		for _, to := range []uint64{0, top} {
			wantNoCount(t, "Count", api.ErrNil)(walk.Count(y, 1, to))
			wantNoCount(t, "DelRange", api.ErrNil)(walk.DelRange(y, 1, to))
			for _, by := range []uint64{0, 1} {
				wantNoCount(t, "Move", api.ErrNil)(walk.Move(y, 1, to, by))
			}
		}
		wantCode(t, "PutAll", walk.PutAll(y, nil), api.ErrNil)
		wantCode(t, "PutAll", walk.PutAll(y, []mtree.Pair{{Key: 1}}), api.ErrNil)
	}
	for _, o := range stores {
		wantNoShape(t, o, x, api.ErrNil)
		wantNoShape(t, o, mtree.New(s), api.ErrNil)
		wantNoShape(t, o, nil, api.ErrNil)
		wantNoDiff(t, o, x, x, api.ErrNil)
		wantNoDiff(t, o, mtree.New(s), mtree.New(s), api.ErrNil)
		y := mtree.New(o)
		wantCode(t, "PutAll", walk.PutAll(y, []mtree.Pair{{Key: 1}}), api.ErrNil)
		wantCount(t, "Count", 0)(walk.Count(y, 0, top))
		wantCount(t, "DelRange", 0)(walk.DelRange(y, 0, top))
		wantCount(t, "Move", 0)(walk.Move(y, 0, top, 1))
	}
}

// P16.1, P16.2: all is asked of the store that is handed in, which may be another one of the same sectors, and is left as it is.
func TestOtherStores(t *testing.T) {
	d, s := laid(t, 100)
	x, p := grown(t, s, 90)
	y := x.Clone()
	q := plain{}
	for key, v := range p {
		q[key] = v
	}
	put(t, y, q, 55, val(99))
	want, e := walk.Look(s, x)
	wantCode(t, "Look", e, api.OK)
	o := on(t, d, 2, 100)
	wantShape(t, o, x, want)
	wantDiff(t, o, x, y, changes(p, q))
	if o.Used() != 0 {
		t.Errorf("the store keeps %d nodes", o.Used())
	}
	few := on(t, d, 2, 4)
	wantNoShape(t, few, x, api.ErrArg)
	wantNoDiff(t, few, x, y, api.ErrArg)
	for from := range 30 {
		other, e := shadow.New(d, from, 50, nil)
		wantCode(t, "shadow.New", e, api.OK)
		if got, e := walk.Look(other, x); e == api.OK && got != want || e != api.OK && e != api.ErrArg {
			t.Errorf("Look: %v, %v", got, e)
		}
	}
	log := hashlog.New()
	other, e := shadow.New(d, 2, 100, log)
	wantCode(t, "shadow.New", e, api.OK)
	wantShape(t, other, x, want)
	if log.Count() != want.Nodes {
		t.Errorf("%d nodes were loaded, of %d", log.Count(), want.Nodes)
	}
}

// P16.1: each node is looked at; a disk that is down.
func TestLookTurned(t *testing.T) {
	d, s := laid(t, 300)
	x, _ := grown(t, s, 120)
	for _, r := range refs(t, s, x) {
		turned(t, d, r.Sector, func() { wantNoShape(t, s, x, api.ErrIntegrity) })
	}
	wantCode(t, "Fail", d.Fail(0), api.OK)
	wantCode(t, "Flush", d.Flush(), api.ErrDown)
	wantNoShape(t, s, x, api.ErrDown)
}

// P16.1: trees of two levels, in order or not.
func TestOrder(t *testing.T) {
	d, s := laid(t, 100)
	five := []api.Ref{}
	for i := range uint64(5) {
		five = append(five, rising(t, s, 100+100*i, 5))
	}
	look := func(want api.Errno, keys []uint64, kids ...api.Ref) {
		t.Helper()
		x := opened(t, s, above(t, s, keys, kids...))
		if want != api.OK {
			wantNoShape(t, s, x, want)
			last := refs(t, s, x)
			turned(t, d, last[len(last)-1].Sector, func() { wantNoShape(t, s, x, api.ErrIntegrity) })
			return
		}
		wantShape(t, s, x, walk.Shape{Deep: 2, Nodes: 1 + len(kids), Leaves: len(kids), Pairs: 5 * len(kids)})
	}
	look(api.OK, []uint64{100, 200, 300, 400, 500}, five...)
	look(api.OK, []uint64{0, 105, 205, 305, 405}, five...)
	look(api.OK, []uint64{100, 500}, five[0], five[4])
	for _, keys := range [][]uint64{
		{101, 200, 300, 400, 500}, // greater than one below it
		{100, 201, 300, 400, 500},
		{100, 200, 300, 400, 501},
		{100, 200, 300, 400, math.MaxUint64},
		{100, 104, 300, 400, 500}, // not greater than one below the place ahead
		{100, 103, 300, 400, 500},
		{100, 200, 300, 304, 500},
		{100, 200, 300, 400, 404},
		{0, 1, 2, 3, 4},
	} {
		look(api.ErrForm, keys, five...)
	}
	look(api.ErrForm, []uint64{100, 200}, five[1], five[0])
	look(api.ErrForm, []uint64{100, 200}, five[0], five[0])
	look(api.ErrForm, []uint64{0, 105, 106}, five[0], five[1], five[1])
	look(api.ErrForm, []uint64{0, 104, 200}, five[0], rising(t, s, 104, 5), five[1]) // a key that two leaves have
	look(api.ErrForm, []uint64{100, 200, 300}, five[0], rising(t, s, 200, 3), five[2])
	look(api.ErrForm, []uint64{100, 200}, rising(t, s, 100, 1), five[1])
	look(api.ErrForm, []uint64{100, 200}, five[0], rising(t, s, 200, 3))
}

// inner makes a node of so many kids, each a leaf of four keys.
func inner(t *testing.T, s *shadow.Store, from uint64, count int) api.Ref {
	t.Helper()
	var keys []uint64
	var kids []api.Ref
	for i := range uint64(count) {
		keys, kids = append(keys, from+10*i), append(kids, rising(t, s, from+10*i, 4))
	}
	return above(t, s, keys, kids...)
}

// P16.1: trees of three levels, in order or not.
func TestOrderDeep(t *testing.T) {
	_, s := laid(t, 100)
	four, five, three := inner(t, s, 100, 4), inner(t, s, 200, 5), inner(t, s, 300, 3)
	x := opened(t, s, above(t, s, []uint64{100, 200}, four, five))
	wantShape(t, s, x, walk.Shape{Deep: 3, Nodes: 12, Leaves: 9, Pairs: 36})
	for _, root := range []api.Ref{
		above(t, s, []uint64{100, 200, 300}, four, five, three), // a node that is no leaf has three keys alone
		above(t, s, []uint64{100, 200}, four, rising(t, s, 200, 5)),
		above(t, s, []uint64{100, 200}, rising(t, s, 100, 5), five),
		above(t, s, []uint64{100, 133}, four, five),
		above(t, s, []uint64{100, 201}, four, five),
		above(t, s, []uint64{100, 120}, four, four),
		above(t, s, []uint64{100, 200}, five, four),
	} {
		wantNoShape(t, s, opened(t, s, root), api.ErrForm)
	}
	// What stands at the places of one kid is right; but its first key is less than the root's key of it.
	low := above(t, s, []uint64{150, 210, 220, 230}, rising(t, s, 200, 4), rising(t, s, 210, 4), rising(t, s, 220, 4), rising(t, s, 230, 4))
	wantNoShape(t, s, opened(t, s, above(t, s, []uint64{100, 200}, four, low)), api.ErrForm)
	wantShape(t, s, opened(t, s, above(t, s, []uint64{100, 150}, four, low)), walk.Shape{Deep: 3, Nodes: 11, Leaves: 8, Pairs: 32})
}

// P1, P16.1, P16.2: nodes in one another, with more ways than can be gone: all is looked at once, and what is turned at the bottom is told.
func TestTower(t *testing.T) {
	d, s := laid(t, 400)
	bottom := rising(t, s, 3, 9)
	r := bottom
	for range 200 {
		r = above(t, s, []uint64{5, 9}, r, r)
	}
	x := opened(t, s, r)
	wantNoShape(t, s, x, api.ErrForm)
	wantDiff(t, s, x, x.Clone(), nil)
	one, p := grown(t, s, 1)
	l, e := x.Range(0, top, 20)
	wantCode(t, "Range", e, api.OK)
	q := plain{}
	for _, pair := range l {
		q[pair.Key] = pair.Val
	}
	wantDiff(t, s, one, x, changes(p, q))
	same := mtree.New(s)
	wantCode(t, "PutAll", walk.PutAll(same, l), api.OK)
	wantDiff(t, s, same, x, nil)
	wantDiff(t, s, x, same, nil)
	wantCount(t, "Count", len(l))(walk.Count(x, 0, top))
	turned(t, d, bottom.Sector, func() {
		wantNoShape(t, s, x, api.ErrIntegrity)
		wantNoDiff(t, s, one, x, api.ErrIntegrity)
		wantNoCount(t, "Count", api.ErrIntegrity)(walk.Count(x, 0, top))
	})
	for _, do := range []func() (int, api.Errno){
		func() (int, api.Errno) { return walk.DelRange(x, 0, top) },
		func() (int, api.Errno) { return walk.Move(x, 0, top, 3) },
	} {
		if n, e := do(); e != api.OK && n != 0 {
			t.Errorf("%d, %v", n, e)
		}
	}
}

// P16.4: trees that were made by their calls are in order; so each leaf but an only one has at least 4 pairs.
func TestMadeIsInOrder(t *testing.T) {
	for seed := range uint64(5) {
		chance := rand.New(rand.NewPCG(seed, 12))
		_, s := laid(t, 900)
		x, p := mtree.New(s), plain{}
		for step := range 3000 {
			if key := chance.Uint64N(900); chance.IntN(7) > 1+step/500%4 {
				put(t, x, p, key, val(step))
			} else {
				_, e := x.Del(key)
				wantCode(t, "Del", e, api.OK)
				delete(p, key)
			}
			if step%20 != 0 {
				continue
			}
			sh, e := walk.Look(s, x)
			if e != api.OK || sh.Pairs != len(p) || sh.Leaves > 1 && sh.Pairs < 4*sh.Leaves || sh.Nodes != s.Used() {
				t.Fatalf("Look: %v, %v", sh, e)
			}
			for _, r := range refs(t, s, x) {
				if n, _ := s.Load(r); n.Leaf && len(n.Vals) < 4 && sh.Leaves > 1 {
					t.Fatalf("a leaf has the keys %v", n.Keys)
				}
			}
		}
	}
}
