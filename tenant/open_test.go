package tenant_test

import (
	"math"
	"testing"

	"casemate/api"
	"casemate/disk"
	"casemate/entry"
	"casemate/hashlog"
	"casemate/mtree"
	"casemate/pool"
	"casemate/shadow"
	"casemate/tenant"
)

// reopen opens a tenant by its root in the place of itself.
func (b *both) reopen(t *testing.T) {
	t.Helper()
	x, e := tenant.Open(1, b.s, b.pool, b.x.Root())
	wantCode(t, "Open", e, api.OK)
	b.x, b.kept = x, x.Root()
	b.p.settle()
}

// wantNoTenant fails if there is a tenant, or another error.
func wantNoTenant(t *testing.T, what string, want api.Errno) func(*tenant.Tenant, api.Errno) {
	t.Helper()
	return func(x *tenant.Tenant, e api.Errno) {
		t.Helper()
		if x != nil || e != want {
			t.Fatalf("%s: %v, %v, want %v", what, x, e, want)
		}
	}
}

// P24.1: stores and pools that are none, and tenants that are not admitted; which of these is told first.
func TestNewWrong(t *testing.T) {
	g := laid(t, 20, 10)
	both := func(id int, s *shadow.Store, p *pool.Pool, want api.Errno) {
		t.Helper()
		wantNoTenant(t, "New", want)(tenant.New(id, s, p))
		wantNoTenant(t, "Open", want)(tenant.Open(id, s, p, entry.Root{}))
		wantNoTenant(t, "Open", want)(tenant.Open(id, s, p, entry.Root{Has: true, Ref: api.Ref{Sector: 3}}))
	}
	for _, id := range []int{1, 0, 3} {
		both(id, nil, g.pool, api.ErrNil)
		both(id, &shadow.Store{}, g.pool, api.ErrNil)
		both(id, g.s, nil, api.ErrNil)
		both(id, g.s, &pool.Pool{}, api.ErrNil)
		both(id, nil, nil, api.ErrNil)
	}
	for _, id := range []int{math.MinInt, -1, 0, 3, 8, 9, 1<<32 + 1, math.MaxInt} {
		both(id, g.s, g.pool, api.ErrTenant)
	}
	wantCode(t, "Remove", g.pool.Field().Remove(2), api.OK)
	both(2, g.s, g.pool, api.ErrTenant)
	g.wantHeld(t)
}

// P24.1: a new tenant, also by a root that Has none, on a store that is full, and a disk that is down; its number.
func TestNew(t *testing.T) {
	g := laid(t, 20, 10)
	wantCode(t, "Admit", g.pool.Field().Admit(8, 0, 10), api.OK)
	for _, id := range []int{1, 2, 8} {
		b := g.fresh(t, id)
		if b.x.ID() != id {
			t.Errorf("ID: %d", b.x.ID())
		}
		b.want(t)
		x, e := tenant.Open(id, g.s, g.pool, entry.Root{Ref: api.Ref{Sector: 99, Sum: api.Sum{1}}})
		wantCode(t, "Open without a root", e, api.OK)
		b.x = x
		b.want(t)
		if x.ID() != id || x.Root() != (entry.Root{}) {
			t.Errorf("ID: %d; Root: %v", x.ID(), x.Root())
		}
		b.free(t)
	}
	l := g.fill(t)
	g.down(t)
	g.fresh(t, 1)
	g.up(t)
	g.drop(t, l)
	wantDead(t, &tenant.Tenant{})
	wantDead(t, new(tenant.Tenant))
}

// P24.1, P24.6: a tenant that is opened by its root, on its own store and on others, also twice: both trees are the root's.
func TestOpen(t *testing.T) {
	b := written(t, 300, 120)
	b.settle(t)
	// On the same store and pool, beside itself.
	x, e := tenant.Open(1, b.s, b.pool, b.x.Root())
	wantCode(t, "Open", e, api.OK)
	other := &both{ground: b.ground, x: x, p: b.p.clone(), kept: b.kept}
	other.wantTold(t)
	b.wantHeld(t, b, other)
	other.remove(t, 1)
	b.wantTold(t)
	b.wantHeld(t, b, other)
	wantCode(t, "Free", x.Free(), api.OK)
	b.want(t)
	// On others, of the same sectors.
	for range 2 {
		b.again(t)
		b.reopen(t)
		b.want(t)
		b.set(t, 1, 3)
		b.create(t, 8, 4)
		b.abort(t)
		b.want(t)
		b.set(t, 1, 3)
		b.remove(t, 4)
		b.settle(t)
		b.want(t)
	}
	b.free(t)
}

// P24.1: a working root that was not settled can be opened, too.
func TestOpenWorking(t *testing.T) {
	b := written(t, 300, 120)
	b.again(t)
	b.reopen(t)
	b.want(t)
	b.free(t)
}

// P24.1: roots that are none's: outside the store, of other sums, of a sector that is no node, on a disk that is down; nothing is held then.
func TestOpenNone(t *testing.T) {
	b := written(t, 300, 120)
	root := b.x.Root()
	refuse := func(what string, r api.Ref, want api.Errno) {
		t.Helper()
		wantNoTenant(t, what, want)(tenant.Open(1, b.s, b.pool, entry.Root{Has: true, Ref: r}))
	}
	all := func() {
		t.Helper()
		for _, sector := range []uint32{0, 1, 302, 400, 1 << 31, math.MaxUint32} {
			refuse("Open of another sector", api.Ref{Sector: sector, Sum: root.Ref.Sum}, api.ErrArg)
		}
		for sector := uint32(2); sector < 302; sector += 7 {
			refuse("Open of another sum", api.Ref{Sector: sector, Sum: api.Sum{1}}, api.ErrIntegrity)
		}
		refuse("Open of noughts", api.Ref{Sector: 301, Sum: hashlog.New().Sum(make([]byte, 512))}, api.ErrIntegrity)
		refuse("Open of another sum", api.Ref{Sector: root.Ref.Sector, Sum: api.Sum{}}, api.ErrIntegrity)
	}
	all()
	b.want(t)
	b.again(t)
	all()
	b.down(t)
	refuse("Open on a disk that is down", root.Ref, api.ErrDown)
	b.up(t)
	b.wantHeld(t)
}

// P24.1: whichever node of a root is turned, there is no tenant, and nothing is held.
func TestOpenTurned(t *testing.T) {
	b := written(t, 300, 120)
	nodes := map[uint32]int{}
	b.sectors(t, b.x.Root(), nodes)
	for _, anew := range []bool{false, true} {
		if anew {
			b.again(t)
		}
		for sector := range nodes {
			b.turned(t, sector, func() {
				wantNoTenant(t, "Open", api.ErrIntegrity)(tenant.Open(1, b.s, b.pool, b.x.Root()))
			})
			if anew {
				b.wantHeld(t)
			} else {
				b.wantHeld(t, b)
			}
		}
	}
	if len(nodes) < 10 {
		t.Errorf("there are %d nodes alone", len(nodes))
	}
	b.reopen(t)
	b.want(t)
}

// tale is a tree of pairs that are put by hand, and its root.
func (g *ground) tale(t *testing.T, l ...mtree.Pair) (*mtree.Tree, entry.Root) {
	t.Helper()
	x := mtree.New(g.s)
	for _, p := range l {
		wantCode(t, "Put", x.Put(p.Key, p.Val), api.OK)
	}
	r, there := x.Root()
	return x, entry.Root{Has: there, Ref: r}
}

// described is a description's pair.
func described(n int, number uint64, blocks int) mtree.Pair {
	v, _ := entry.WriteVolume(entry.Volume{Number: number, Blocks: blocks})
	return mtree.Pair{Key: uint64(n) << 32, Val: v}
}

// placed is a block's pair.
func placed(n, block int, extent uint32) mtree.Pair {
	return mtree.Pair{Key: uint64(n)<<32 + 1 + uint64(block), Val: entry.WriteBlock(entry.Block{Ref: api.Ref{Sector: extent}})}
}

// P24.1: keys under which nothing may stand, and values that may not stand where they do.
func TestOpenValues(t *testing.T) {
	g := laid(t, 200, 20)
	block := entry.WriteBlock(entry.Block{Ref: api.Ref{Sector: 3, Sum: api.Sum{9: 1}}, Stamp: 5})
	at := func(key uint64, v [44]byte) mtree.Pair { return mtree.Pair{Key: key, Val: v} }
	for name, l := range map[string][]mtree.Pair{
		"a count with a byte behind":         {at(0, [44]byte{8: 1})},
		"a count with a last byte":           {at(0, [44]byte{43: 1})},
		"a block as a count":                 {at(0, block)},
		"something behind the count":         {at(1, entry.WriteCount(1))},
		"something ahead of the volumes":     {at(1<<32-1, entry.WriteCount(1))},
		"a volume without blocks":            {at(1<<32, [44]byte{7: 1})},
		"a volume of 257 blocks":             {at(1<<32, [44]byte{7: 1, 10: 1, 11: 1})},
		"a volume with a byte behind":        {at(1<<32, [44]byte{7: 1, 11: 5, 12: 1})},
		"a volume with a last byte":          {at(8<<32, [44]byte{7: 1, 11: 5, 43: 1})},
		"a block as a volume":                {at(1<<32, block)},
		"a ninth volume":                     {at(9<<32, described(1, 1, 5).Val)},
		"a volume at the last key":           {at(math.MaxUint64, described(1, 1, 5).Val)},
		"a volume at a block's key":          {at(1<<32+1, described(1, 1, 5).Val)},
		"a volume behind all its blocks":     {described(1, 1, 5), at(1<<32+257, described(1, 1, 5).Val)},
		"a volume far behind its key":        {at(8<<32+1<<31, described(1, 1, 5).Val)},
		"a block of no volume":               {placed(1, 0, 3)},
		"a block of another volume":          {described(1, 1, 256), placed(2, 0, 3)},
		"a block of a volume behind it":      {placed(1, 255, 3), described(2, 1, 256)},
		"a block that the volume has not":    {described(1, 1, 5), placed(1, 5, 3)},
		"a block that no volume has":         {described(1, 1, 256), placed(1, 256, 3)},
		"something far behind a volume":      {described(1, 1, 256), placed(1, 1<<31, 3)},
		"a block that the last one has not":  {described(8, 1, 1), placed(8, 1, 3)},
		"a wrong one behind many right ones": {at(0, entry.WriteCount(2)), described(1, 1, 256), placed(1, 0, 3), placed(1, 255, 4), described(2, 2, 1), placed(2, 0, 5), placed(2, 1, 6)},
		"a wrong one and no such extent":     {described(1, 1, 256), placed(1, 0, 99), placed(2, 0, 3)},
	} {
		x, r := g.tale(t, l...)
		used := g.s.Used()
		wantNoTenant(t, name, api.ErrIntegrity)(tenant.Open(1, g.s, g.pool, r))
		if g.s.Used() != used {
			t.Errorf("%s: the store keeps %d nodes, and kept %d", name, g.s.Used(), used)
		}
		wantCode(t, "Free", x.Free(), api.OK)
		g.wantHeld(t)
	}
}

// P24.1: values that may stand there, though no call would have put them.
func TestOpenTale(t *testing.T) {
	b := laid(t, 200, 20).fresh(t, 1)
	x, r := b.tale(t, mtree.Pair{Val: entry.WriteCount(math.MaxUint64 - 1)}, described(1, 0, 1), described(2, math.MaxUint64, 256), placed(2, 0, 7), placed(2, 255, 7), described(8, 5, 9), placed(8, 8, 19))
	y, e := tenant.Open(1, b.s, b.pool, r)
	wantCode(t, "Open", e, api.OK)
	wantCode(t, "Free", x.Free(), api.OK)
	place := func(extent uint32) entry.Block { return entry.Block{Ref: api.Ref{Sector: extent}} }
	b.x, b.kept = y, r
	b.p.working = tree{math.MaxUint64 - 1, true, map[int]volume{
		1: {0, 1, map[int]entry.Block{}},
		2: {math.MaxUint64, 256, map[int]entry.Block{0: place(7), 255: place(7)}},
		8: {5, 9, map[int]entry.Block{8: place(19)}},
	}}
	b.p.settle()
	b.want(t)
	// The last volume that it can have, of all Numbers.
	wantCode(t, "Create", b.create(t, 3, 5), api.OK)
	wantCode(t, "Create behind the last Number", b.create(t, 4, 5), api.ErrFull)
	b.remove(t, 3)
	wantCode(t, "Create behind the last Number", b.create(t, 3, 5), api.ErrFull)
	wantCode(t, "Create of a wrong number", b.create(t, 9, 5), api.ErrVolume)
	wantCode(t, "Create of a wrong size", b.create(t, 4, 0), api.ErrArg)
	wantCode(t, "Create, again", b.create(t, 2, 5), api.ErrThere)
	b.want(t)
	b.abort(t)
	wantCode(t, "Create", b.create(t, 4, 5), api.OK)
	b.want(t)
	b.free(t)
	// Without a count there was none ahead of the first one.
	x, r = b.tale(t, described(2, 9, 5))
	y, e = tenant.Open(1, b.s, b.pool, r)
	wantCode(t, "Open", e, api.OK)
	wantCode(t, "Free", x.Free(), api.OK)
	wantCode(t, "Create", y.Create(1, 5), api.OK)
	if v, e := y.Volume(1); v != (entry.Volume{Number: 1, Blocks: 5}) || e != api.OK {
		t.Errorf("Volume(1): %v, %v", v, e)
	}
}

// P24.1: Claim's errors, at the first block and at later ones; nothing is held then that was not.
func TestOpenClaims(t *testing.T) {
	g := laid(t, 200, 20)
	field := g.pool.Field()
	for i := range 3 { // the extents 0 to 2 are another tenant's
		extent, e := field.Take(2)
		if extent != uint32(i) || e != api.OK {
			t.Fatalf("Take: %d, %v", extent, e)
		}
	}
	refuse := func(what string, want api.Errno, blocks ...uint32) {
		t.Helper()
		l := []mtree.Pair{described(1, 1, 256)}
		for i, extent := range blocks {
			l = append(l, placed(1, i*3, extent))
		}
		x, r := g.tale(t, l...)
		used, slack := g.s.Used(), field.Slack()
		wantNoTenant(t, what, want)(tenant.Open(1, g.s, g.pool, r))
		if g.s.Used() != used || field.Slack() != slack || field.Charge(1) != 0 || field.Charge(2) != 3 {
			t.Fatalf("%s: the store keeps %d nodes, and kept %d; Slack is %d, and was %d; charged are %d, and %d", what, g.s.Used(), used, field.Slack(), slack, field.Charge(1), field.Charge(2))
		}
		for extent := range 20 {
			if got, was := field.Times(uint32(extent)), max(0, min(1, 3-extent)); got != was {
				t.Fatalf("%s: the extent %d is held %d times, and was %d times", what, extent, got, was)
			}
		}
		wantCode(t, "Free", x.Free(), api.OK)
	}
	refuse("no such extent", api.ErrArg, 20)
	refuse("no such extent", api.ErrArg, math.MaxUint32)
	refuse("no such extent behind others", api.ErrArg, 5, 9, 5, 19, 20)
	refuse("no such extent behind another tenant's", api.ErrArg, 0, 1, 1, 2, 20)
	refuse("no such extent behind all kinds", api.ErrArg, 5, 0, 5, 2, 2, 7, 20, 8)
	wantCode(t, "Resize", field.Resize(1, 0, 2), api.OK)
	refuse("more than the quota", api.ErrQuota, 5, 0, 5, 2, 2, 7, 8)
	refuse("what is told first", api.ErrQuota, 5, 6, 7, 20)
	refuse("what is told first", api.ErrArg, 5, 6, 20, 7)
	wantCode(t, "Resize", field.Resize(1, 2, 20), api.OK)
	wantCode(t, "Resize", field.Resize(2, 18, 18), api.OK)
	refuse("more than is left", api.ErrPool, 5, 0, 5, 2, 2, 7, 8)
	wantCode(t, "Resize", field.Resize(1, 0, 0), api.OK)
	refuse("nothing but what others have", api.ErrQuota, 0, 1, 2, 3)
	x, r := g.tale(t, described(1, 1, 256), placed(1, 0, 2), placed(1, 1, 2))
	y, e := tenant.Open(1, g.s, g.pool, r)
	if e != api.OK || field.Times(2) != 5 || field.Charge(1) != 0 {
		t.Fatalf("Open: %v; the extent is held %d times", e, field.Times(2))
	}
	wantCode(t, "Free", x.Free(), api.OK)
	wantCode(t, "Free", y.Free(), api.OK)
	if field.Times(2) != 1 || field.Charge(2) != 3 || g.s.Used() != 0 {
		t.Errorf("the extent is held %d times", field.Times(2))
	}
}

// P24.1, P24.5: two tenants of one root: one of both alone is charged, and still each hold of both is gone when they are, whichever is freed first.
func TestTwo(t *testing.T) {
	for first := 1; first <= 2; first++ {
		b := written(t, 300, 120)
		other, e := tenant.Open(2, b.s, b.pool, b.x.Root())
		wantCode(t, "Open", e, api.OK)
		shared, _, _ := b.x.Block(1, 0)
		times := b.pool.Field().Times(shared.Ref.Sector)
		if was, e := other.Clear(1, 0); !was || e != api.OK || b.pool.Field().Times(shared.Ref.Sector) != times-1 {
			t.Fatalf("Clear: %v, %v; held %d times, and %d ahead", was, e, b.pool.Field().Times(shared.Ref.Sector), times)
		}
		l := []*tenant.Tenant{b.x, other}
		wantCode(t, "Free", l[first-1].Free(), api.OK)
		wantCode(t, "Free", l[2-first].Free(), api.OK)
		b.wantHeld(t)
	}
}

// P24.1: a pool and a store on two disks.
func TestTwoDisks(t *testing.T) {
	g := laid(t, 60, 1)
	d, e := disk.New(20)
	wantCode(t, "disk.New", e, api.OK)
	p, e := pool.New(d, 4, 9, nil)
	wantCode(t, "pool.New", e, api.OK)
	wantCode(t, "Admit", p.Field().Admit(5, 1, 9), api.OK)
	x, e := tenant.New(5, g.s, p)
	wantCode(t, "New", e, api.OK)
	wantCode(t, "Create", x.Create(1, 5), api.OK)
	r, e := p.Put(5, make([]byte, 512))
	wantCode(t, "Put", e, api.OK)
	wantCode(t, "Set", x.Set(1, 4, entry.Block{Ref: r}), api.OK)
	l, e := x.Changes()
	wantCode(t, "Changes", e, api.OK)
	wantCode(t, "Settle", x.Settle(l), api.OK)
	if p.Field().Times(0) != 2 || x.ID() != 5 {
		t.Errorf("the extent is held %d times", p.Field().Times(0))
	}
}
