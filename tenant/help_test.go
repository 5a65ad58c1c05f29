package tenant_test

import (
	"maps"
	"math"
	"slices"
	"testing"

	"casemate/api"
	"casemate/disk"
	"casemate/entry"
	"casemate/hashlog"
	"casemate/mtree"
	"casemate/node"
	"casemate/pool"
	"casemate/shadow"
	"casemate/tenant"
)

// ground is what tenants stand on: a disk with a store of some sectors from the third one on, and a pool behind them.
type ground struct {
	d              *disk.Disk
	nodes, extents int
	s              *shadow.Store
	pool           *pool.Pool
}

// laid is a ground, in whose field the tenants 1 and 2 may have all.
func laid(t *testing.T, nodes, extents int) *ground {
	t.Helper()
	d, e := disk.New(2 + nodes + extents)
	wantCode(t, "disk.New", e, api.OK)
	g := &ground{d: d, nodes: nodes, extents: extents}
	g.again(t)
	return g
}

// again lays another store and another pool of the same sectors.
func (g *ground) again(t *testing.T) {
	t.Helper()
	log := hashlog.New()
	var e api.Errno
	g.s, e = shadow.New(g.d, 2, g.nodes, log)
	wantCode(t, "shadow.New", e, api.OK)
	g.pool, e = pool.New(g.d, 2+g.nodes, g.extents, log)
	wantCode(t, "pool.New", e, api.OK)
	for id := 1; id <= 2; id++ {
		wantCode(t, "Admit", g.pool.Field().Admit(id, 0, g.extents), api.OK)
	}
}

// both is a tenant, and a plain one to which the same is done.
type both struct {
	*ground
	x    *tenant.Tenant
	p    *plain
	kept entry.Root // of the kept tree
	puts int
}

// fresh is a tenant without volumes.
func (g *ground) fresh(t *testing.T, id int) *both {
	t.Helper()
	x, e := tenant.New(id, g.s, g.pool)
	wantCode(t, "New", e, api.OK)
	return &both{ground: g, x: x, p: newPlain()}
}

func wantCode(t *testing.T, what string, e, want api.Errno) {
	t.Helper()
	if e != want {
		t.Fatalf("%s: %v, want %v", what, e, want)
	}
}

// put is where a new block is; it is told what its caller holds.
func (b *both) put(t *testing.T) (entry.Block, api.Errno) {
	t.Helper()
	b.puts++
	text := make([]byte, api.Sector)
	text[0], text[1], text[2] = byte(b.x.ID()), byte(b.puts), byte(b.puts>>8)
	r, e := b.pool.Put(b.x.ID(), text)
	return entry.Block{Ref: r, Stamp: uint64(b.puts)}, e
}

func (b *both) create(t *testing.T, n, blocks int) api.Errno {
	t.Helper()
	e := b.p.create(n, blocks)
	if got := b.x.Create(n, blocks); got != e {
		t.Fatalf("Create(%d, %d): %v, want %v", n, blocks, got, e)
	}
	return e
}

func (b *both) remove(t *testing.T, n int) api.Errno {
	t.Helper()
	e := b.p.remove(n)
	if got := b.x.Remove(n); got != e {
		t.Fatalf("Remove(%d): %v, want %v", n, got, e)
	}
	return e
}

func (b *both) resize(t *testing.T, n, blocks int) api.Errno {
	t.Helper()
	e := b.p.resize(n, blocks)
	if got := b.x.Resize(n, blocks); got != e {
		t.Fatalf("Resize(%d, %d): %v, want %v", n, blocks, got, e)
	}
	return e
}

func (b *both) snapshot(t *testing.T, from, to int) api.Errno {
	t.Helper()
	e := b.p.snapshot(from, to)
	if got := b.x.Snapshot(from, to); got != e {
		t.Fatalf("Snapshot(%d, %d): %v, want %v", from, to, got, e)
	}
	return e
}

// set sets a new block; with an error its extent is dropped again.
func (b *both) set(t *testing.T, n, block int) api.Errno {
	t.Helper()
	at, e := b.put(t)
	if e != api.OK {
		return e
	}
	e = b.p.set(n, block, at)
	if got := b.x.Set(n, block, at); got != e {
		t.Fatalf("Set(%d, %d): %v, want %v", n, block, got, e)
	}
	if e != api.OK {
		wantCode(t, "Drop", b.pool.Field().Drop(b.x.ID(), at.Ref.Sector), api.OK)
	}
	return e
}

func (b *both) clear(t *testing.T, n, block int) api.Errno {
	t.Helper()
	was, e := b.p.clear(n, block)
	if got, code := b.x.Clear(n, block); got != was || code != e {
		t.Fatalf("Clear(%d, %d): %v, %v, want %v, %v", n, block, got, code, was, e)
	}
	return e
}

func (b *both) settle(t *testing.T) {
	t.Helper()
	l, e := b.x.Changes()
	wantCode(t, "Changes", e, api.OK)
	wantCode(t, "Settle", b.x.Settle(l), api.OK)
	b.p.settle()
	b.kept = b.x.Root()
}

func (b *both) abort(t *testing.T) {
	t.Helper()
	wantCode(t, "Abort", b.x.Abort(), api.OK)
	b.p.abort()
	if b.x.Root() != b.kept {
		t.Fatalf("behind Abort the root is %v, want %v", b.x.Root(), b.kept)
	}
}

// wantTold fails if a tenant does not tell what the plain one does.
func (b *both) wantTold(t *testing.T) {
	t.Helper()
	if l, e := b.x.Volumes(); !slices.Equal(l, b.p.list()) || e != api.OK {
		t.Fatalf("Volumes: %v, %v, want %v", l, e, b.p.list())
	}
	for n := -1; n <= 10; n++ {
		v, want := b.p.working.volumes[n], api.OK
		if !b.p.there(n) {
			want = api.ErrVolume
		}
		if got, e := b.x.Volume(n); got != (entry.Volume{Number: v.number, Blocks: v.blocks}) || e != want {
			t.Fatalf("Volume(%d): %v, %v, want %v", n, got, e, v)
		}
		asked := []int{-1, v.blocks - 1, v.blocks, v.blocks + 1, 255, 256}
		for block := range min(v.blocks, 12) {
			asked = append(asked, block)
		}
		for _, block := range slices.AppendSeq(asked, maps.Keys(v.written)) {
			at, written, e := b.p.block(n, block)
			if got, is, code := b.x.Block(n, block); got != at || is != written || code != e {
				t.Fatalf("Block(%d, %d): %v, %v, %v, want %v, %v, %v", n, block, got, is, code, at, written, e)
			}
		}
	}
	if l, e := b.x.Changes(); !slices.Equal(l, b.p.changes()) || e != api.OK {
		t.Fatalf("Changes: %v, %v, want %v", l, e, b.p.changes())
	}
}

// sectors adds the sectors of all nodes of a root.
func (g *ground) sectors(t *testing.T, r entry.Root, all map[uint32]int) {
	t.Helper()
	row := []api.Ref{r.Ref}
	if !r.Has {
		row = nil
	}
	for ; len(row) > 0; row = row[1:] {
		all[row[0].Sector]++
		n, e := g.s.Load(row[0])
		wantCode(t, "Load", e, api.OK)
		row = append(row, n.Kids...)
	}
}

// wantHeld fails if anything else is held than what these tenants' trees name, and so often, or a charge is another one.
func (g *ground) wantHeld(t *testing.T, l ...*both) {
	t.Helper()
	nodes, times, charges := map[uint32]int{}, map[uint32]int{}, map[int]int{}
	for _, b := range l {
		g.sectors(t, b.kept, nodes)
		g.sectors(t, b.x.Root(), nodes)
		held := b.p.held()
		for extent, n := range held {
			times[extent] += n
		}
		charges[b.x.ID()] = len(held)
	}
	for extent := range g.extents {
		if got := g.pool.Field().Times(uint32(extent)); got != times[uint32(extent)] {
			t.Fatalf("the extent %d is held %d times, want %d", extent, got, times[uint32(extent)])
		}
	}
	for id := 1; id <= api.MaxTenants; id++ {
		if got := g.pool.Field().Charge(id); got != charges[id] {
			t.Fatalf("the tenant %d is charged %d, want %d", id, got, charges[id])
		}
	}
	if g.s.Used() != len(nodes) || g.s.Sweep() != 0 {
		t.Fatalf("the store keeps %d nodes, want %d", g.s.Used(), len(nodes))
	}
}

// want fails if a tenant that is alone does not tell, or does not hold, what it should.
func (b *both) want(t *testing.T) {
	t.Helper()
	b.wantTold(t)
	b.wantHeld(t, b)
	wantRoot(t, b)
}

// wantRoot fails if a tree that is opened by the root has not the pairs of the working tree.
func wantRoot(t *testing.T, b *both) {
	t.Helper()
	want := b.p.working.pairs()
	r := b.x.Root()
	if r.Has != (len(want) > 0) || !r.Has && r != (entry.Root{}) {
		t.Fatalf("the root of %d pairs: %v", len(want), r)
	}
	if !r.Has {
		return
	}
	x, e := mtree.Open(b.s, r.Ref)
	wantCode(t, "mtree.Open", e, api.OK)
	l, e := x.Range(0, math.MaxUint64, math.MaxInt)
	wantCode(t, "Range", e, api.OK)
	for _, pair := range l {
		if want[pair.Key] != pair.Val {
			t.Fatalf("under %d there is % x, want % x", pair.Key, pair.Val, want[pair.Key])
		}
	}
	if len(l) != len(want) {
		t.Fatalf("there are %d pairs, want %d", len(l), len(want))
	}
	wantCode(t, "Free", x.Free(), api.OK)
}

// free frees a tenant that is alone, and fails if anything is held behind that.
func (b *both) free(t *testing.T) {
	t.Helper()
	wantCode(t, "Free", b.x.Free(), api.OK)
	b.wantHeld(t)
	wantDead(t, b.x)
}

// wantDead fails if a tenant that there is not tells anything.
func wantDead(t *testing.T, x *tenant.Tenant) {
	t.Helper()
	v, e := x.Volume(1)
	l, f := x.Volumes()
	at, written, g := x.Block(1, 0)
	was, h := x.Clear(1, 0)
	c, i := x.Changes()
	for _, e := range []api.Errno{e, f, g, h, i, x.Create(1, 1), x.Create(0, 0), x.Remove(1), x.Resize(1, 0), x.Snapshot(1, 1), x.Snapshot(0, 0), x.Set(1, 0, entry.Block{}), x.Settle(nil), x.Abort(), x.Free()} {
		wantCode(t, "a call of a tenant that is none", e, api.ErrNil)
	}
	if v != (entry.Volume{}) || len(l) > 0 || at != (entry.Block{}) || written || was || len(c) > 0 || x.ID() != 0 || x.Root() != (entry.Root{}) {
		t.Fatal("a tenant that is none tells something")
	}
}

// fill holds leaves of its own till a store has no room; what it has made can be dropped.
func (g *ground) fill(t *testing.T) []api.Ref {
	t.Helper()
	var l []api.Ref
	for {
		r, e := g.s.Make(node.Node{Leaf: true, Keys: []uint64{uint64(len(l))}, Vals: [][44]byte{{255}}})
		if e == api.ErrFull {
			return l
		}
		wantCode(t, "Make", e, api.OK)
		wantCode(t, "Hold", g.s.Hold(r), api.OK)
		l = append(l, r)
	}
}

// drop drops what fill made.
func (g *ground) drop(t *testing.T, l []api.Ref) {
	t.Helper()
	for _, r := range l {
		wantCode(t, "Drop", g.s.Drop(r), api.OK)
	}
}

// turned turns a sector, does something, and turns it back.
func (g *ground) turned(t *testing.T, sector uint32, do func()) {
	t.Helper()
	was, e := g.d.Read(sector)
	wantCode(t, "Read", e, api.OK)
	noise := slices.Clone(was)
	noise[int(sector)%api.Sector] ^= 16
	wantCode(t, "Tamper", g.d.Tamper(sector, noise), api.OK)
	do()
	wantCode(t, "Tamper", g.d.Tamper(sector, was), api.OK)
}

// down lets the disk be down.
func (g *ground) down(t *testing.T) {
	t.Helper()
	wantCode(t, "Flush", g.d.Flush(), api.OK)
	wantCode(t, "Fail", g.d.Fail(0), api.OK)
	wantCode(t, "Flush", g.d.Flush(), api.ErrDown)
}

// up lets it be up again.
func (g *ground) up(t *testing.T) {
	t.Helper()
	wantCode(t, "Crash", g.d.Crash(nil), api.OK)
}
