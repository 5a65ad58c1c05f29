package walk_test

import (
	"maps"
	"math/rand/v2"
	"testing"

	"casemate/api"
	"casemate/hashlog"
	"casemate/mtree"
	"casemate/shadow"
	"casemate/walk"
)

// P16.2: equal trees, trees without pairs, and trees that share nothing.
func TestDiff(t *testing.T) {
	_, s := laid(t, 300)
	for _, count := range []int{0, 1, 9, 10, 80} {
		x, p := grown(t, s, count)
		same, _ := grown(t, s, count)
		for _, y := range []*mtree.Tree{x, x.Clone(), same} {
			wantDiff(t, s, x, y, nil)
		}
		empty := mtree.New(s)
		wantDiff(t, s, x, empty, changes(p, plain{}))
		wantDiff(t, s, empty, x, changes(plain{}, p))
		q := plain{}
		for i := range 50 {
			put(t, same, q, uint64(15*i), val(i))
		}
		put(t, same, q, top, val(7))
		put(t, same, q, 0, val(8))
		q = merged(p, q)
		wantPairs(t, same, q)
		wantDiff(t, s, x, same, changes(p, q))
		wantDiff(t, s, same, x, changes(q, p))
	}
}

// merged is all pairs of two trees, of a key that both have the second one's.
func merged(p, q plain) plain {
	all := maps.Clone(p)
	maps.Copy(all, q)
	return all
}

// P16.2: a value alone that is another; one that is the same.
func TestDiffValues(t *testing.T) {
	_, s := laid(t, 60)
	x, p := grown(t, s, 12)
	y, q := grown(t, s, 12)
	v := p[50]
	v[43]++
	put(t, y, q, 50, v)
	wantDiff(t, s, x, y, []walk.Change{{Key: 50, HasWas: true, HasIs: true, Was: p[50], Is: v}})
	put(t, y, q, 50, p[50])
	put(t, y, q, 0, [44]byte{})
	wantDiff(t, s, x, y, []walk.Change{{HasIs: true}})
	wantDiff(t, s, y, x, []walk.Change{{HasWas: true}})
}

// P16.2: parts that are kids of both roots are not looked at; all others are, and both roots.
func TestDiffShared(t *testing.T) {
	d, s := laid(t, 300)
	x, p := grown(t, s, 150)
	y, q := x.Clone(), maps.Clone(p)
	put(t, y, q, 705, val(1))
	was, is := map[api.Ref]int{}, map[api.Ref]int{}
	kids := func(x *mtree.Tree, into map[api.Ref]int) {
		root, _ := x.Root()
		n, e := s.Load(root)
		wantCode(t, "Load", e, api.OK)
		for _, r := range n.Kids {
			into[r] = 1
		}
	}
	kids(x, was)
	kids(y, is)
	shared := 0
	for _, r := range append(refs(t, s, x), refs(t, s, y)...) {
		below := was[r]+is[r] == 2
		turned(t, d, r.Sector, func() {
			if below {
				shared++
				wantDiff(t, s, x, y, changes(p, q))
				wantDiff(t, s, y, x, changes(q, p))
			}
		})
	}
	if shared < 4 {
		t.Fatalf("%d kids are of both roots", shared/2)
	}
	looked := map[api.Ref]int{}
	for r := range was {
		looked[r] += 1 - is[r]
	}
	for r := range is {
		looked[r] += 1 - was[r]
	}
	for r, times := range looked {
		if times > 0 {
			turned(t, d, r.Sector, func() {
				wantNoDiff(t, s, x, y, api.ErrIntegrity)
				wantNoDiff(t, s, y, x, api.ErrIntegrity)
			})
			n, e := s.Load(r)
			wantCode(t, "Load", e, api.OK)
			for _, kid := range n.Kids {
				turned(t, d, kid.Sector, func() { wantNoDiff(t, s, x, y, api.ErrIntegrity) })
			}
		}
	}
	for _, z := range []*mtree.Tree{x, y} {
		root, _ := z.Root()
		turned(t, d, root.Sector, func() {
			wantNoDiff(t, s, x, y, api.ErrIntegrity)
			wantNoDiff(t, s, y, x, api.ErrIntegrity)
			wantNoDiff(t, s, z, z, api.ErrIntegrity)
		})
	}
	log := hashlog.New()
	o, e := shadow.New(d, 2, 300, log)
	wantCode(t, "shadow.New", e, api.OK)
	wantDiff(t, o, x, x.Clone(), nil)
	if log.Count() != 1 {
		t.Errorf("of equal trees %d nodes were looked at", log.Count())
	}
}

// P16.2: a disk that is down; a tree on another store is looked at in the one that is handed in.
func TestDiffWrong(t *testing.T) {
	d, s := laid(t, 60)
	x, p := grown(t, s, 12)
	other, q := grown(t, on(t, d, 40, 20), 1)
	wantDiff(t, s, x, other, changes(p, q))
	wantNoDiff(t, other.Store(), x, other, api.ErrArg)
	wantNoDiff(t, other.Store(), other, x, api.ErrArg)
	wantDiff(t, other.Store(), mtree.New(s), other, changes(plain{}, q))
	wantCode(t, "Fail", d.Fail(0), api.OK)
	wantCode(t, "Flush", d.Flush(), api.ErrDown)
	wantNoDiff(t, s, x, x, api.ErrDown)
	wantDiff(t, s, mtree.New(s), mtree.New(s), nil)
}

// done does differences to a tree.
func done(t *testing.T, x *mtree.Tree, l []walk.Change) {
	t.Helper()
	for _, c := range l {
		if v, there, e := x.Get(c.Key); v != c.Was || there != c.HasWas || e != api.OK {
			t.Fatalf("Get(%d): %v, %v, %v, and the difference is %v", c.Key, v, there, e, c)
		}
		if c.HasIs {
			wantCode(t, "Put", x.Put(c.Key, c.Is), api.OK)
			continue
		}
		if there, e := x.Del(c.Key); !there || e != api.OK {
			t.Fatalf("Del(%d): %v, %v", c.Key, there, e)
		}
	}
}

// P16.2, P16.5: differences, done to the first tree, make it the second one.
func TestDiffDone(t *testing.T) {
	for seed := range uint64(60) {
		chance := rand.New(rand.NewPCG(seed, 13))
		_, s := laid(t, 900)
		x, p := grown(t, s, chance.IntN(200))
		y, q := x.Clone(), maps.Clone(p)
		for range chance.IntN(5) * chance.IntN(40) {
			if key := chance.Uint64N(2000) / 5 * 5; chance.IntN(2) == 0 {
				put(t, y, q, key, val(chance.IntN(200)))
			} else {
				_, e := y.Del(key)
				wantCode(t, "Del", e, api.OK)
				delete(q, key)
			}
		}
		wantDiff(t, s, x, y, changes(p, q))
		wantDiff(t, s, y, x, changes(q, p))
		l, _ := walk.Diff(s, x, y)
		done(t, x, l)
		wantPairs(t, x, q)
		wantDiff(t, s, x, y, nil)
	}
}
