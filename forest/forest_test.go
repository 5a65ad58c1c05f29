package forest_test

import (
	"math"
	"slices"
	"testing"

	"casemate/api"
	"casemate/entry"
	"casemate/forest"
	"casemate/mtree"
	"casemate/shadow"
)

// P26.1: stores that are none.
func TestNewWrong(t *testing.T) {
	for _, s := range []*shadow.Store{nil, {}, new(shadow.Store)} {
		wantNoForest(t, api.ErrNil)(forest.New(s))
		for _, r := range []entry.Root{{}, {Has: true}, {Has: true, Ref: api.Ref{Sector: 3}}, {Ref: api.Ref{Sector: math.MaxUint32}}} {
			wantNoForest(t, api.ErrNil)(forest.Open(s, r))
		}
	}
}

// P26.1: a forest without tenants, also by a root that Has none; a store that is full, and a disk that is down, are none of its errors.
func TestNew(t *testing.T) {
	b := fresh(t, 20)
	b.want(t)
	l := fill(t, b.s)
	down(t, b.d)
	for _, r := range []entry.Root{{}, {Ref: api.Ref{Sector: 3}}, {Ref: api.Ref{Sector: math.MaxUint32, Sum: api.Sum{1}}}} {
		f, e := forest.Open(b.s, r)
		wantCode(t, "Open", e, api.OK)
		if f.Root() != (entry.Root{}) {
			t.Errorf("Root: %v", f.Root())
		}
		b.f = f
		b.wantTold(t)
	}
	f, e := forest.New(b.s)
	wantCode(t, "New", e, api.OK)
	b.f = f
	b.wantTold(t)
	up(t, b.d)
	drop(t, b.s, l)
	b.want(t)
	b.put(t, 3, some(3))
	b.want(t)
}

// P26.1, P1: forests that are nil, that no call made, also with a tree, or that were freed.
func TestNone(t *testing.T) {
	wantNil(t, nil)
	wantNil(t, &forest.Forest{})
	wantNil(t, new(forest.Forest))
	_, s := laid(t, 20)
	x := mtree.New(s)
	wantCode(t, "mtree.Put", x.Put(2, [44]byte{}), api.OK)
	wantNil(t, &forest.Forest{Tree: x})
	b := grown(t, 30, 1, 3)
	wantCode(t, "Free", b.f.Free(), api.OK)
	wantNil(t, b.f)
	b = fresh(t, 30)
	wantCode(t, "Free", b.f.Free(), api.OK)
	wantNil(t, b.f)
}

// P26.2: tenants of all numbers, put, put again, and taken away; numbers that no tenant has, and those that are not there.
func TestPutAndDel(t *testing.T) {
	b := fresh(t, 40)
	for round := range 2 {
		for i, number := range everyone() {
			b.put(t, number, some(100*round+i))
			b.want(t)
		}
	}
	for _, number := range everyone() {
		b.put(t, number, b.p[number]) // the same again
		b.want(t)
		b.put(t, number, stand{})
		b.want(t)
		b.put(t, number, some(number))
	}
	for i, number := range everyone() {
		b.del(t, number)
		b.want(t)
		b.del(t, number)
		b.want(t)
		if i%3 == 0 {
			b.put(t, number, some(i))
			b.want(t)
			b.del(t, number)
		}
	}
	if b.s.Used() != 0 {
		t.Errorf("the store keeps %d nodes", b.s.Used())
	}
}

// P26.2: what stands under both keys, counted by hand.
func TestBytes(t *testing.T) {
	b := fresh(t, 20)
	b.put(t, 8, stand{entry.Root{Has: true, Ref: api.Ref{Sector: 258, Sum: api.Sum{7}}}, entry.Tenant{Slot: api.Sum{9}, Reserve: 3, Quota: 2048, Copy: 1}})
	n, e := b.s.Load(b.f.Root().Ref)
	wantCode(t, "Load", e, api.OK)
	root := [44]byte{0: 1, 3: 1, 4: 2, 5: 7}
	what := [44]byte{0: 9, 33: 3, 34: 8, 36: 1}
	if !n.Leaf || !slices.Equal(n.Keys, []uint64{16, 17}) || !slices.Equal(n.Vals, [][44]byte{root, what}) {
		t.Errorf("the root's node is %v", n)
	}
}

// mayNot is roots and tenants of which one may not be.
func mayNot() []stand {
	r := entry.Root{Has: true, Ref: api.Ref{Sector: 9}}
	l := []stand{{root: entry.Root{Ref: api.Ref{Sector: 1}}}, {root: entry.Root{Ref: api.Ref{Sum: api.Sum{31: 1}}}}, {entry.Root{Ref: r.Ref}, entry.Tenant{Copy: 2}}}
	for _, x := range []entry.Tenant{{Reserve: -1}, {Reserve: 2049}, {Quota: -1}, {Quota: 2049}, {Copy: -1}, {Copy: 2}, {Reserve: 65536, Quota: 2048}, {Reserve: 1 << 32}, {Quota: math.MinInt}, {Copy: 256}} {
		l = append(l, stand{tenant: x}, stand{r, x})
	}
	return l
}

// P26.2: Put of numbers that there are not, ahead of roots and tenants that may not be, ahead of the store's errors; all is as it was.
func TestPutWrong(t *testing.T) {
	b := grown(t, 30, 1, 8)
	wrong := func() {
		t.Helper()
		for _, number := range numbers() {
			for _, x := range mayNot() {
				want := api.ErrForm
				if number < 1 || number > 8 {
					want = api.ErrTenant
				}
				wantCode(t, "Put", b.f.Put(number, x.root, x.tenant), want)
			}
			if number < 1 || number > 8 {
				wantCode(t, "Put", b.f.Put(number, some(1).root, some(1).tenant), api.ErrTenant)
				wantCode(t, "Del", b.f.Del(number), api.ErrTenant)
				_, _, e := b.f.Get(number)
				wantCode(t, "Get", e, api.ErrTenant)
			}
		}
	}
	root := b.f.Root()
	wrong()
	b.want(t)
	l := fill(t, b.s)
	wrong()
	drop(t, b.s, l)
	down(t, b.d)
	wrong()
	up(t, b.d)
	turned(t, b.d, root.Ref.Sector, wrong)
	b.want(t)
	if b.f.Root() != root {
		t.Error("the root is another one")
	}
}

// P26.2: the edges of what may be.
func TestPutEdges(t *testing.T) {
	b := fresh(t, 30)
	full := api.Sum{}
	for i := range full {
		full[i] = byte(255 - i)
	}
	for i, x := range []stand{
		{},
		{entry.Root{Has: true}, entry.Tenant{Reserve: 2048, Quota: 2048, Copy: 1}},
		{entry.Root{Has: true, Ref: api.Ref{Sector: math.MaxUint32, Sum: full}}, entry.Tenant{Slot: full, Reserve: 2048}},
		{entry.Root{}, entry.Tenant{Slot: api.Sum{31: 1}, Quota: 2048}},
		{entry.Root{Has: true, Ref: api.Ref{Sector: 1 << 24}}, entry.Tenant{Reserve: 1, Quota: 256, Copy: 1}},
	} {
		b.put(t, 1+i%3, x)
		b.want(t)
	}
}

// P26.2: Tenants with none, one, some and all of them, rising.
func TestTenants(t *testing.T) {
	for set := range 256 {
		b := fresh(t, 40)
		var want []int
		for number := 8; number > 0; number-- {
			if set>>(number-1)&1 == 1 {
				b.put(t, number, some(number))
				want = append([]int{number}, want...)
			}
		}
		if l, e := b.f.Tenants(); !slices.Equal(l, want) || e != api.OK {
			t.Fatalf("Tenants: %v, %v, want %v", l, e, want)
		}
	}
}

// P26.4: what is told is nobody else's.
func TestApart(t *testing.T) {
	b := grown(t, 30, everyone()...)
	l, e := b.f.Tenants()
	wantCode(t, "Tenants", e, api.OK)
	clear(l)
	b.want(t)
}

// P26.1, P26.4: a forest that is opened by its root is the same, and stays, when the other one is freed.
func TestOpen(t *testing.T) {
	for count := range 9 {
		b := grown(t, 60, everyone()[:count]...)
		f, e := forest.Open(b.s, b.f.Root())
		wantCode(t, "Open", e, api.OK)
		same := &both{b.d, b.s, f, b.p}
		same.want(t)
		if f.Root() != b.f.Root() {
			t.Error("the root is another one")
		}
		wantCode(t, "Free", b.f.Free(), api.OK)
		same.want(t)
		wantCode(t, "Free", f.Free(), api.OK)
		if b.s.Used() != 0 {
			t.Errorf("the store keeps %d nodes", b.s.Used())
		}
	}
}

// P26.4: so is one that is opened on another store of the same sectors, time and again, with changes between.
func TestOpenElsewhere(t *testing.T) {
	b := grown(t, 60, everyone()...)
	for _, number := range append(everyone(), everyone()...) {
		s := on(t, b.d)
		f, e := forest.Open(s, b.f.Root())
		wantCode(t, "Open", e, api.OK)
		b = &both{b.d, s, f, b.p}
		b.want(t)
		b.put(t, 9-number, some(7*number))
		b.want(t)
		b.del(t, number)
		b.want(t)
	}
}

// tale is a tree of pairs that are put by hand.
func tale(t *testing.T, s *shadow.Store, l ...mtree.Pair) (*mtree.Tree, entry.Root) {
	t.Helper()
	x := mtree.New(s)
	for _, p := range l {
		wantCode(t, "mtree.Put", x.Put(p.Key, p.Val), api.OK)
	}
	ref, has := x.Root()
	return x, entry.Root{Has: has, Ref: ref}
}

// lies is pairs of which some may not stand in a forest.
func lies(t *testing.T) [][]mtree.Pair {
	t.Helper()
	of := func(numbers ...int) []mtree.Pair {
		p := plain{}
		for _, number := range numbers { // neither value is one of the other kind
			p[number] = stand{entry.Root{Has: true, Ref: api.Ref{Sum: api.Sum{31: 9}}}, entry.Tenant{Slot: api.Sum{99}, Copy: number % 2}}
		}
		return p.pairs(t)
	}
	var l [][]mtree.Pair
	for _, key := range []uint64{0, 1, 18, 19, 20, 1 << 32, 1<<33 + 2, math.MaxUint64 - 1, math.MaxUint64} { // no tenant's
		val := of(1)[key%2].Val
		l = append(l, []mtree.Pair{{Key: key, Val: val}}, append(of(1, 8), mtree.Pair{Key: key, Val: val}), append(of(everyone()...), mtree.Pair{Key: key, Val: val}))
	}
	for _, key := range []uint64{0, 18, 1 << 40, math.MaxUint64 - 1} { // both of no tenant
		l = append(l, []mtree.Pair{{Key: key, Val: of(1)[0].Val}, {Key: key + 1, Val: of(1)[1].Val}})
	}
	for i := range 16 { // one of both alone, and both as if they were the other one's
		l = append(l, slices.Delete(of(everyone()...), i, i+1), of(everyone()...)[i:i+1], slices.Delete(of(1, 2, 5), i%6, i%6+1))
		x := of(everyone()...)
		x[i].Val = x[i^1].Val
		l = append(l, x)
	}
	l = append(l, slices.Delete(of(2, 3), 1, 3), slices.Delete(of(2, 4), 1, 3)) // one's Root, and another one's Tenant
	for i := range 6 {                                                          // right values, one of them one key too far
		x := of(2, 4, 6)
		x[i].Key += uint64(2*(i%2)) - 1
		l = append(l, x, x[i/2*2:i/2*2+2])
	}
	for _, c := range []struct {
		at  int
		val [44]byte
	}{
		{0, [44]byte{2}}, {0, [44]byte{1, 43: 1}}, {0, [44]byte{4: 1}}, {0, [44]byte{36: 1}}, {0, [44]byte{37: 1}}, {0, [44]byte{1, 37: 1}},
		{1, [44]byte{36: 2}}, {1, [44]byte{37: 1}}, {1, [44]byte{32: 8, 33: 1}}, {1, [44]byte{34: 8, 35: 1}}, {1, [44]byte{32: 255}}, {1, [44]byte{43: 1}},
	} { // values that are none
		for number := 1; number <= 8; number += 3 {
			x := of(number)
			x[c.at].Val = c.val
			full := of(everyone()...)
			full[2*number-2+c.at].Val = c.val
			l = append(l, x, full)
		}
	}
	return l
}

// P26.1: trees with a pair that may not stand there, or with only one of both of a tenant: ErrIntegrity, and nothing is held, on their own stores and on others.
func TestOpenLies(t *testing.T) {
	for _, l := range lies(t) {
		d, s := laid(t, 40)
		x, root := tale(t, s, l...)
		used := s.Used()
		wantNoForest(t, api.ErrIntegrity)(forest.Open(s, root))
		if s.Used() != used || s.Sweep() != 0 {
			t.Fatalf("the store keeps %d nodes, and kept %d", s.Used(), used)
		}
		other := on(t, d)
		wantNoForest(t, api.ErrIntegrity)(forest.Open(other, root))
		if other.Used() != 0 {
			t.Fatalf("the other store keeps %d nodes", other.Used())
		}
		wantCode(t, "Free", x.Free(), api.OK)
		if s.Used() != 0 {
			t.Fatalf("the store keeps %d nodes", s.Used())
		}
	}
}

// P26.1: pairs that may stand there, put by hand.
func TestOpenTruth(t *testing.T) {
	b := grown(t, 40, everyone()...)
	x, root := tale(t, b.s, b.p.pairs(t)...)
	wantCode(t, "Free", b.f.Free(), api.OK)
	f, e := forest.Open(b.s, root)
	wantCode(t, "Open", e, api.OK)
	wantCode(t, "Free", x.Free(), api.OK)
	b.f = f
	b.want(t)
}

// P26.1: roots that are none's: outside the store, of other sums, of noughts, on a disk that is down; nothing is held.
func TestOpenNone(t *testing.T) {
	b := grown(t, 40, everyone()...)
	root := b.f.Root()
	refuse := func(s *shadow.Store, r api.Ref, want api.Errno) {
		t.Helper()
		used := s.Used()
		wantNoForest(t, want)(forest.Open(s, entry.Root{Has: true, Ref: r}))
		if s.Used() != used || s.Sweep() != 0 {
			t.Fatalf("the store keeps %d nodes, and kept %d", s.Used(), used)
		}
	}
	for _, s := range []*shadow.Store{b.s, on(t, b.d)} {
		for _, sector := range []uint32{0, 1, 42, 43, 1 << 31, math.MaxUint32} {
			refuse(s, api.Ref{Sector: sector, Sum: root.Ref.Sum}, api.ErrArg)
		}
		for sector := uint32(2); sector < 42; sector++ {
			refuse(s, api.Ref{Sector: sector, Sum: api.Sum{1}}, api.ErrIntegrity)
		}
		down(t, b.d)
		refuse(s, root.Ref, api.ErrDown)
		up(t, b.d)
	}
	b.want(t)
}

// P26.1: whichever node of a root is turned, there is no forest, and nothing is held.
func TestOpenTurned(t *testing.T) {
	b := grown(t, 40, everyone()...)
	all := map[uint32]int{}
	sectors(t, b.s, b.f.Root(), all)
	other := on(t, b.d)
	for sector := range all {
		turned(t, b.d, sector, func() {
			wantNoForest(t, api.ErrIntegrity)(forest.Open(b.s, b.f.Root()))
			wantNoForest(t, api.ErrIntegrity)(forest.Open(other, b.f.Root()))
		})
		b.want(t)
		if other.Used() != 0 {
			t.Fatalf("the other store keeps %d nodes", other.Used())
		}
	}
	if len(all) < 3 {
		t.Errorf("there are %d nodes alone", len(all))
	}
}

// P26.3, P26.4: what is done to a forest leaves its clones, and what is done to these leaves it.
func TestClone(t *testing.T) {
	for count := range 9 {
		b := grown(t, 80, everyone()[:count]...)
		c := b.clone(t)
		if c.f.Root() != b.f.Root() {
			t.Error("the clone's root is another one")
		}
		wantHeld(t, b.s, b, c)
		b.put(t, 5, some(90))
		b.put(t, 4, some(91))
		c.wantTold(t)
		c.del(t, 5)
		c.put(t, 2, some(92))
		d := c.clone(t)
		d.del(t, 2)
		for _, x := range []*both{b, c, d} {
			x.wantTold(t)
			x.wantTree(t)
		}
		wantHeld(t, b.s, b, c, d)
		wantCode(t, "Free", c.f.Free(), api.OK)
		wantHeld(t, b.s, b, d)
		b.wantTold(t)
		wantCode(t, "Free", b.f.Free(), api.OK)
		d.want(t)
	}
}

// P26.3: Become of a forest with more tenants, with fewer, with none, of itself, and of its clone; both go on by themselves.
func TestBecome(t *testing.T) {
	for _, from := range []int{0, 1, 8} {
		for _, to := range []int{0, 1, 5, 8} {
			b := grown(t, 80, everyone()[:from]...)
			f, e := forest.New(b.s)
			wantCode(t, "New", e, api.OK)
			o := &both{b.d, b.s, f, plain{}}
			for _, number := range everyone()[:to] {
				o.put(t, number, some(3*number))
			}
			wantCode(t, "Become", b.f.Become(o.f), api.OK)
			if b.f.Root() != o.f.Root() {
				t.Error("the root is another one")
			}
			is := &both{b.d, b.s, b.f, plain{}}
			for number, x := range o.p {
				is.p[number] = x
			}
			wantHeld(t, b.s, is, o)
			wantCode(t, "Become", is.f.Become(is.f), api.OK)
			is.wantTold(t)
			is.put(t, 3, some(77))
			is.del(t, 5)
			o.wantTold(t)
			o.put(t, 8, some(78))
			is.wantTold(t)
			wantHeld(t, b.s, is, o)
			wantCode(t, "Free", o.f.Free(), api.OK)
			is.want(t)
		}
	}
}

// P26.3: Become of a forest on another store, of the same sectors or not: ErrArg, and nothing has changed. It needs no disk.
func TestBecomeWrong(t *testing.T) {
	b, o := grown(t, 30, 1, 2), grown(t, 30, 3)
	f, e := forest.Open(on(t, b.d), b.f.Root())
	wantCode(t, "Open", e, api.OK)
	wantCode(t, "Become", b.f.Become(o.f), api.ErrArg)
	wantCode(t, "Become", b.f.Become(f), api.ErrArg)
	wantCode(t, "Become", f.Become(b.f), api.ErrArg)
	wantCode(t, "Become", b.f.Become(nil), api.ErrNil)
	wantCode(t, "Become", b.f.Become(&forest.Forest{}), api.ErrNil)
	b.want(t)
	o.want(t)
	c := b.clone(t)
	c.del(t, 1)
	down(t, b.d)
	wantCode(t, "Become", b.f.Become(c.f), api.OK)
	wantCode(t, "Free", c.f.Free(), api.OK)
	up(t, b.d)
	delete(b.p, 1)
	b.want(t)
	down(t, b.d)
	wantCode(t, "Free", b.f.Free(), api.OK)
	if b.s.Used() != 0 {
		t.Errorf("the store keeps %d nodes", b.s.Used())
	}
}

// P26.1: the tree's other calls are the forest's; of one that was freed they tell nothing.
func TestTree(t *testing.T) {
	b := grown(t, 30, 1, 2, 7)
	if b.f.Store() != b.s {
		t.Error("Store: another one")
	}
	if l, e := b.f.Range(3, 5, 9); !slices.Equal(l, b.p.pairs(t)[1:4]) || e != api.OK {
		t.Errorf("Range: %v, %v", l, e)
	}
	wantCode(t, "Free", b.f.Free(), api.OK)
	if l, e := b.f.Range(0, math.MaxUint64, 9); len(l) != 0 || e != api.ErrNil || b.f.Store() != nil {
		t.Errorf("Range of a forest that was freed: %v, %v", l, e)
	}
}
