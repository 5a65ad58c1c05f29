package walk_test

import (
	"bytes"
	"maps"
	"math"
	"math/rand/v2"
	"slices"
	"testing"

	"casemate/api"
	"casemate/disk"
	"casemate/mtree"
	"casemate/shadow"
	"casemate/walk"
)

// spans is ranges of all kinds: empty, turned round, of one key, of all keys.
func spans() [][2]uint64 {
	var l [][2]uint64
	edges := []uint64{0, 1, 10, 11, 95, 100, 305, 400, 401, top - 1, top}
	for _, from := range edges {
		for _, to := range edges {
			l = append(l, [2]uint64{from, to})
		}
	}
	return l
}

// ends is a tree of some pairs, and pairs of the least key and of the greatest one.
func ends(t *testing.T, s *shadow.Store) (*mtree.Tree, plain) {
	t.Helper()
	x, p := grown(t, s, 40)
	put(t, x, p, 0, val(700))
	put(t, x, p, top, val(701))
	return x, p
}

// P16.1: how many pairs have some keys; nodes that are not as they were are told, if they are on the way.
func TestCount(t *testing.T) {
	d, s := laid(t, 100)
	x, p := ends(t, s)
	for _, c := range spans() {
		wantCount(t, "Count", len(p.between(c[0], c[1])))(walk.Count(x, c[0], c[1]))
	}
	wantCount(t, "Count of none", 0)(walk.Count(mtree.New(s), 0, top))
	for _, r := range refs(t, s, x) {
		turned(t, d, r.Sector, func() { wantNoCount(t, "Count", api.ErrIntegrity)(walk.Count(x, 0, top)) })
	}
	wantCode(t, "Fail", d.Fail(0), api.OK)
	wantCode(t, "Flush", d.Flush(), api.ErrDown)
	wantNoCount(t, "Count", api.ErrDown)(walk.Count(x, 1, 2))
}

// P16.3, P16.4, P16.6: all keys of a range are taken away, and no other ones.
func TestDelRange(t *testing.T) {
	_, s := laid(t, 300)
	x, p := ends(t, s)
	for _, c := range spans() {
		y, q := x.Clone(), maps.Clone(p)
		gone := p.between(c[0], c[1])
		wantCount(t, "DelRange", len(gone))(walk.DelRange(y, c[0], c[1]))
		for _, pair := range gone {
			delete(q, pair.Key)
		}
		wantPairs(t, y, q)
		wantPairs(t, x, p)
		if sh, e := walk.Look(s, y); e != api.OK || sh.Pairs != len(q) {
			t.Fatalf("Look: %v, %v", sh, e)
		}
		wantCount(t, "DelRange, again", 0)(walk.DelRange(y, c[0], c[1]))
		wantCode(t, "Free", y.Free(), api.OK)
		if s.Sweep() != 0 || s.Used() != len(refs(t, s, x)) {
			t.Fatalf("the store keeps %d nodes", s.Used())
		}
	}
}

// P16.3, P16.6: pairs are put in order, so that of those of one key the last one stays; the list is left as it is.
func TestPutAll(t *testing.T) {
	_, s := laid(t, 300)
	x, p := ends(t, s)
	wantSame(t, s, x, func() { wantCode(t, "PutAll", walk.PutAll(x, nil), api.OK) })
	var l []mtree.Pair
	for i := range 100 {
		pair := mtree.Pair{Key: uint64(i * 37 % 60), Val: val(i)}
		l = append(l, pair)
		p[pair.Key] = pair.Val
	}
	l = append(l, mtree.Pair{Key: top, Val: val(5)}, mtree.Pair{Key: 7, Val: val(6)}, mtree.Pair{Key: 7, Val: val(7)})
	p[top], p[7] = val(5), val(7)
	was := slices.Clone(l)
	wantCode(t, "PutAll", walk.PutAll(x, l), api.OK)
	if !slices.Equal(l, was) {
		t.Error("the list was changed")
	}
	clear(l)
	wantPairs(t, x, p)
	if sh, e := walk.Look(s, x); e != api.OK || sh.Nodes != s.Used() || s.Sweep() != 0 {
		t.Errorf("Look: %v, %v; the store keeps %d nodes", sh, e, s.Used())
	}
}

// P16.3: what is put has the values that its keys had at first, though others are put at these; what is past the greatest key begins anew.
func TestMove(t *testing.T) {
	_, s := laid(t, 400)
	x, p := ends(t, s)
	for _, c := range spans() {
		for _, by := range []uint64{1, 5, 10, 30, 1000, 1 << 63, top - 4, top} {
			y, q := x.Clone(), maps.Clone(p)
			l := p.between(c[0], c[1])
			wantCount(t, "Move", len(l))(walk.Move(y, c[0], c[1], by))
			for _, pair := range l {
				q[pair.Key+by] = pair.Val
			}
			wantPairs(t, y, q)
			if _, e := walk.Look(s, y); e != api.OK {
				t.Fatalf("Look: %v", e)
			}
			wantCode(t, "Free", y.Free(), api.OK)
		}
		wantSame(t, s, x, func() { wantNoCount(t, "Move by 0", api.ErrArg)(walk.Move(x, c[0], c[1], 0)) })
	}
	wantPairs(t, x, p)
	wantNoCount(t, "Move by 0", api.ErrArg)(walk.Move(mtree.New(s), 0, top, 0))
	wantCount(t, "Move of none", 0)(walk.Move(mtree.New(s), 0, top, 1))
}

// many is the changes of many keys, of a tree of 40 pairs; each needs nodes of all levels.
func many(t *testing.T) []func(x *mtree.Tree, p plain) api.Errno {
	t.Helper()
	var l []mtree.Pair
	for i := range 30 {
		l = append(l, mtree.Pair{Key: uint64(13 * i), Val: val(900 + i)})
	}
	return []func(x *mtree.Tree, p plain) api.Errno{
		func(x *mtree.Tree, p plain) api.Errno {
			e := walk.PutAll(x, l)
			for _, pair := range l {
				p[pair.Key] = pair.Val
			}
			return e
		},
		func(x *mtree.Tree, p plain) api.Errno {
			n, e := walk.DelRange(x, 50, 333)
			if n != 0 && e != api.OK {
				t.Fatalf("DelRange: %d, %v", n, e)
			}
			maps.DeleteFunc(p, func(key uint64, _ [44]byte) bool { return key >= 50 && key <= 333 })
			return e
		},
		func(x *mtree.Tree, p plain) api.Errno {
			n, e := walk.Move(x, 50, 333, 77)
			if n != 0 && e != api.OK {
				t.Fatalf("Move: %d, %v", n, e)
			}
			for _, pair := range p.between(50, 333) {
				p[pair.Key+77] = pair.Val
			}
			return e
		},
	}
}

// wantWhole fails if a change that told no error was not done as a whole.
func wantWhole(t *testing.T, s *shadow.Store, x *mtree.Tree, p plain, more int) {
	t.Helper()
	wantPairs(t, x, p)
	if sh, e := walk.Look(s, x); e != api.OK || sh.Nodes+more != s.Used() || s.Sweep() != 0 {
		t.Fatalf("Look: %v, %v; the store keeps %d nodes", sh, e, s.Used())
	}
}

// P16.3: a store that is full at the first key, or in the midst of all: the tree is as it was, and nothing more is kept.
func TestFullInTheMidst(t *testing.T) {
	for i, change := range many(t) {
		_, s := laid(t, 100)
		x, p := grown(t, s, 40)
		free, e := 0, api.ErrFull
		for e == api.ErrFull {
			l := fill(t, s, free)
			root, _ := x.Root()
			used := s.Used()
			q := maps.Clone(p)
			if e = change(x, q); e == api.OK {
				drop(t, s, l)
				wantWhole(t, s, x, q, 0)
				break
			}
			if r, _ := x.Root(); r != root || s.Used() != used || s.Sweep() != 0 {
				t.Fatalf("the store keeps %d nodes, and kept %d", s.Used(), used)
			}
			wantPairs(t, x, p)
			drop(t, s, l)
			free++
		}
		wantCode(t, "a change", e, api.OK)
		if free < 5 {
			t.Errorf("the change %d needed %d nodes", i, free)
		}
	}
}

// P16.3: a disk that goes down in the midst of all.
func TestDownInTheMidst(t *testing.T) {
	for i, change := range many(t) {
		d, s := laid(t, 100)
		x, p := grown(t, s, 40)
		calls, e := 0, api.ErrDown
		for e == api.ErrDown {
			wantCode(t, "Flush", d.Flush(), api.OK)
			wantCode(t, "Fail", d.Fail(calls), api.OK)
			root, _ := x.Root()
			used := s.Used()
			q := maps.Clone(p)
			if e = change(x, q); e == api.OK {
				wantCode(t, "Crash", d.Crash(bytes.Repeat([]byte{255}, 100)), api.OK)
				wantWhole(t, s, x, q, 0)
				break
			}
			if r, _ := x.Root(); r != root || s.Used() != used || s.Sweep() != 0 {
				t.Fatalf("the store keeps %d nodes, and kept %d", s.Used(), used)
			}
			wantCode(t, "Crash", d.Crash(nil), api.OK)
			wantPairs(t, x, p)
			calls++
		}
		wantCode(t, "a change", e, api.OK)
		if calls < 20 {
			t.Errorf("the change %d needed %d writes", i, calls)
		}
	}
}

// P16.3: nodes that are not as they were: a change is done as a whole, or not at all.
func TestTurnedInTheMidst(t *testing.T) {
	for _, change := range many(t) {
		d, s := laid(t, 200)
		x, p := grown(t, s, 40)
		failed := 0
		for _, r := range refs(t, s, x) {
			y := x.Clone()
			q := maps.Clone(p)
			turned(t, d, r.Sector, func() {
				wantSameUnless(t, s, y, func() api.Errno { return change(y, q) }, &failed)
			})
			if n, _ := y.Root(); n != root(x) {
				wantPairs(t, y, q)
			}
			wantCode(t, "Free", y.Free(), api.OK)
		}
		if failed < 5 {
			t.Errorf("%d sectors were asked for", failed)
		}
		wantWhole(t, s, x, p, 0)
	}
}

func root(x *mtree.Tree) api.Ref {
	r, _ := x.Root()
	return r
}

// wantSameUnless does a change, which must leave all as it is, if it tells that a sector was turned.
func wantSameUnless(t *testing.T, s *shadow.Store, x *mtree.Tree, change func() api.Errno, failed *int) {
	t.Helper()
	was, used := root(x), s.Used()
	if change() == api.OK {
		return
	}
	*failed++
	if root(x) != was || s.Used() != used || s.Sweep() != 0 {
		t.Fatalf("the store keeps %d nodes, and kept %d", s.Used(), used)
	}
}

// P16.3: the error of the first call that tells one, whatever stands behind it.
func TestErrors(t *testing.T) {
	d, s := laid(t, 60)
	x, p := grown(t, s, 12)
	l := fill(t, s, 0)
	for _, do := range []func() (int, api.Errno){
		func() (int, api.Errno) { return walk.DelRange(x, 0, 10) },
		func() (int, api.Errno) { return walk.Move(x, 0, 10, 1) },
		func() (int, api.Errno) { return 0, walk.PutAll(x, []mtree.Pair{{Key: 1}}) },
	} {
		wantSame(t, s, x, func() { wantNoCount(t, "full", api.ErrFull)(do()) })
		turned(t, d, root(x).Sector, func() {
			wantSame(t, s, x, func() { wantNoCount(t, "turned", api.ErrIntegrity)(do()) })
		})
	}
	wantSame(t, s, x, func() { wantCount(t, "DelRange of none", 0)(walk.DelRange(x, 11, 19)) })
	wantSame(t, s, x, func() { wantCount(t, "Move of none", 0)(walk.Move(x, 11, 19, 1)) })
	wantSame(t, s, x, func() { wantNoCount(t, "Move by 0", api.ErrArg)(walk.Move(x, 0, top, 0)) })
	wantPairs(t, x, p)
	drop(t, s, l)
	wantCode(t, "Flush", d.Flush(), api.OK)
	wantCode(t, "Fail", d.Fail(0), api.OK)
	wantSame(t, s, x, func() { wantCode(t, "PutAll", walk.PutAll(x, []mtree.Pair{{Key: 1}}), api.ErrDown) })
	wantNoCount(t, "DelRange", api.ErrDown)(walk.DelRange(x, 0, 10))
	wantNoCount(t, "Move", api.ErrDown)(walk.Move(x, 0, 10, 1))
	wantNoCount(t, "Move by 0", api.ErrArg)(walk.Move(x, 0, 10, 0))
	wantCode(t, "Crash", d.Crash(nil), api.OK)
	wantPairs(t, x, p)
}

// P16.6: a change of many is what they are one by one, on a tree of its own.
func TestOneByOne(t *testing.T) {
	for seed := range uint64(30) {
		chance := rand.New(rand.NewPCG(seed, 14))
		_, s := laid(t, 900)
		_, o := laid(t, 900)
		x, p := grown(t, s, 60)
		y, _ := grown(t, o, 60)
		for range 12 {
			from, to, by := chance.Uint64N(800), chance.Uint64N(800), 1+chance.Uint64N(99)
			pairs, e := y.Range(from, to, math.MaxInt)
			wantCode(t, "Range", e, api.OK)
			switch chance.IntN(3) {
			case 0:
				wantCount(t, "DelRange", len(pairs))(walk.DelRange(x, from, to))
				for _, pair := range pairs {
					there, e := y.Del(pair.Key)
					wantCode(t, "Del", e, api.OK)
					if delete(p, pair.Key); !there {
						t.Fatal("Del: it was not there")
					}
				}
			case 1:
				wantCount(t, "Move", len(pairs))(walk.Move(x, from, to, by))
				for _, pair := range pairs {
					put(t, y, p, pair.Key+by, pair.Val)
				}
			default:
				var l []mtree.Pair
				for i := range chance.IntN(40) {
					l = append(l, mtree.Pair{Key: chance.Uint64N(900), Val: val(i)})
				}
				wantCode(t, "PutAll", walk.PutAll(x, l), api.OK)
				for _, pair := range l {
					put(t, y, p, pair.Key, pair.Val)
				}
			}
			wantWhole(t, s, x, p, 0)
			wantPairs(t, y, p)
			one, _ := walk.Look(s, x)
			wantShape(t, o, y, one)
		}
	}
}

// P16.1 to P16.3, P4: whatever anybody turns, what is told is right, or an error.
func TestTold(t *testing.T) {
	for seed := range uint64(60) {
		chance := rand.New(rand.NewPCG(seed, 15))
		d, s := laid(t, 80)
		x, p := grown(t, s, 60)
		y, q := x.Clone(), maps.Clone(p)
		for i := range 8 {
			put(t, y, q, chance.Uint64N(700), val(300+i))
		}
		turn(t, d, chance)
		if sh, e := walk.Look(s, x); e == api.OK && (sh.Pairs != 60 || sh.Deep != 3) {
			t.Fatalf("Look: %v", sh)
		}
		if n, e := walk.Count(x, 55, 405); e == api.OK && n != len(p.between(55, 405)) {
			t.Fatalf("Count: %d", n)
		}
		if l, e := walk.Diff(s, x, y); e == api.OK && !slices.Equal(l, changes(p, q)) {
			t.Fatalf("Diff: %v", l)
		}
		was := root(y)
		if n, e := walk.DelRange(y, 55, 405); e == api.OK && n != len(q.between(55, 405)) || e != api.OK && root(y) != was {
			t.Fatalf("DelRange: %d, %v", n, e)
		}
	}
}

// turn turns a few sectors: with noise, or with what stands elsewhere.
func turn(t *testing.T, d *disk.Disk, chance *rand.Rand) {
	t.Helper()
	for range 1 + chance.IntN(3) {
		text, e := d.Read(uint32(chance.IntN(d.Size())))
		wantCode(t, "Read", e, api.OK)
		if chance.IntN(2) == 0 {
			text[chance.IntN(len(text))] ^= 4
		}
		wantCode(t, "Tamper", d.Tamper(uint32(chance.IntN(d.Size())), text), api.OK)
	}
}
