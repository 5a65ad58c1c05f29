package mtree_test

import (
	"maps"
	"math"
	"math/rand/v2"
	"testing"

	"casemate/api"
	"casemate/disk"
	"casemate/mtree"
	"casemate/shadow"
)

// both is a tree and a plain one, to which the same is done.
type both struct {
	x *mtree.Tree
	p plain
}

// some is trees of one store, and plain ones.
type some struct {
	d      *disk.Disk
	s      *shadow.Store
	l      []both
	chance *rand.Rand
}

func (b *some) any() *both {
	return &b.l[b.chance.IntN(len(b.l))]
}

// key is some key: few are unlike, so that they are met again; some are at both ends of all.
func (b *some) key() uint64 {
	switch key := b.chance.Uint64N(400); b.chance.IntN(20) {
	case 0:
		return top - key/40
	case 1:
		return key / 40
	default:
		return key * 1000
	}
}

func (b *some) trees() []*mtree.Tree {
	var l []*mtree.Tree
	for _, o := range b.l {
		l = append(l, o.x)
	}
	return l
}

// change puts or deletes some keys of a tree; now and then more are put, now and then more are deleted.
func (b *some) change(t *testing.T, step int) {
	t.Helper()
	o := b.any()
	for range 1 + b.chance.IntN(30) {
		if key := b.key(); b.chance.IntN(9) > 2+step/80%5 {
			put(t, o.x, o.p, key, val(step))
		} else {
			del(t, o.x, o.p, key)
		}
	}
}

func (b *some) step(t *testing.T, step int) {
	t.Helper()
	switch kind := b.chance.IntN(20); {
	case kind == 0 && len(b.l) < 5:
		o := b.any()
		b.l = append(b.l, both{o.x.Clone(), maps.Clone(o.p)})
	case kind == 1 && len(b.l) > 1:
		i := b.chance.IntN(len(b.l))
		wantCode(t, "Free", b.l[i].x.Free(), api.OK)
		b.l = append(b.l[:i], b.l[i+1:]...)
	case kind == 2:
		o, p := b.any(), b.any()
		wantCode(t, "Become", o.x.Become(p.x), api.OK)
		o.p = maps.Clone(p.p)
	case kind == 3:
		b.again(t)
	case kind < 7:
		from, to, most := b.key(), b.key(), b.chance.IntN(50)
		o := b.any()
		wantRange(t, o.x, from, to, most, o.p.between(from, to, most))
	default:
		b.change(t, step)
	}
}

// again has another store of the same sectors open all trees by their roots.
func (b *some) again(t *testing.T) {
	t.Helper()
	b.s = on(t, b.d)
	for i, o := range b.l {
		root, there := o.x.Root()
		if !there {
			b.l[i].x = mtree.New(b.s)
			continue
		}
		x, e := mtree.Open(b.s, root)
		wantCode(t, "Open", e, api.OK)
		b.l[i].x = x
	}
}

// P15.2 to P15.6, P15.8, P15.9: many steps, held against plain lists.
func TestSteps(t *testing.T) {
	deepest := 0
	for seed := range uint64(4) {
		d, s := laid(t, 1500)
		b := &some{d: d, s: s, l: []both{{mtree.New(s), plain{}}}, chance: rand.New(rand.NewPCG(seed, 9))}
		for step := range 400 {
			b.step(t, step)
			if step%20 == 0 {
				wantHeld(t, b.s, 0, b.trees()...)
			}
			for _, o := range b.l {
				if step%20 == 0 {
					wantPairs(t, o.x, o.p)
					wantOrder(t, b.s, o.x)
					deepest = max(deepest, deep(t, b.s, o.x))
				}
				wantGet(t, o.x, o.p, b.key())
			}
		}
		for _, o := range b.l {
			wantCode(t, "Free", o.x.Free(), api.OK)
		}
		if b.s.Used() != 0 {
			t.Fatalf("the store keeps %d nodes", b.s.Used())
		}
	}
	if deepest < 3 {
		t.Errorf("no tree was deeper than %d", deepest)
	}
}

// turn turns some sectors: with noise, with what was there before, with what stands elsewhere.
func (b *some) turn(t *testing.T, old [][]byte) {
	t.Helper()
	for range 1 + b.chance.IntN(4) {
		at := uint32(b.chance.IntN(b.d.Size()))
		text, e := b.d.Read(at)
		wantCode(t, "Read", e, api.OK)
		switch b.chance.IntN(4) {
		case 0:
			text[b.chance.IntN(api.Sector)] ^= 1 << b.chance.IntN(8)
		case 1:
			text = old[at]
		case 2:
			text = old[b.chance.IntN(len(old))]
		case 3:
			text, _ = b.d.Read(uint32(b.chance.IntN(b.d.Size())))
		}
		wantCode(t, "Tamper", b.d.Tamper(at, text), api.OK)
	}
}

// P15.7: whatever anybody turns, Get and Range tell what was put, or an error.
func TestTold(t *testing.T) {
	told, right := 0, 0
	for seed := range uint64(150) {
		d, s := laid(t, 60)
		x, p := grown(t, s, 60)
		b := &some{d: d, s: s, l: []both{{x, p}}, chance: rand.New(rand.NewPCG(seed, 10))}
		var old [][]byte
		for at := range d.Size() {
			text, e := d.Read(uint32(at))
			wantCode(t, "Read", e, api.OK)
			old = append(old, text)
		}
		for i := range 30 {
			put(t, x, p, uint64(10*b.chance.IntN(60)), val(1000+i))
		}
		b.turn(t, old)
		for key := range uint64(620) {
			want, is := p[key]
			switch v, there, e := x.Get(key); {
			case e == api.OK && (v != want || there != is):
				t.Fatalf("Get(%d): %v, %v, want %v, %v", key, v, there, want, is)
			case e == api.OK:
				right++
			case e != api.ErrIntegrity || there || v != [44]byte{}:
				t.Fatalf("Get(%d): %v, %v, %v", key, v, there, e)
			default:
				told++
			}
		}
		if l, e := x.Range(0, top, math.MaxInt); e == api.OK {
			wantRange(t, x, 0, top, math.MaxInt, p.list())
		} else if len(l) != 0 || e != api.ErrIntegrity {
			t.Fatalf("Range: %v, %v", l, e)
		}
	}
	if told < 500 || right < 500 {
		t.Errorf("%d keys were told to be turned, and %d as they were put", told, right)
	}
}
