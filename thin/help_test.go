package thin_test

import (
	"bytes"
	"slices"
	"testing"

	"casemate/api"
	"casemate/disk"
	"casemate/entry"
	"casemate/hashlog"
	"casemate/keys"
	"casemate/node"
	"casemate/pool"
	"casemate/seal"
	"casemate/shadow"
	"casemate/tenant"
	"casemate/thin"
)

// first is the sector at which stores and pools begin.
const first = 3

// ground is what views stand on: a store of some sectors of one disk, and a pool of some of another one.
type ground struct {
	nodes, blocks *disk.Disk
	s             *shadow.Store
	pool          *pool.Pool
}

// laid is a ground, in whose field the tenants 1 and 2 may have all.
func laid(t *testing.T, nodes, extents int) *ground {
	t.Helper()
	a, e := disk.New(first + nodes)
	wantCode(t, "disk.New", e, api.OK)
	b, e := disk.New(first + extents)
	wantCode(t, "disk.New", e, api.OK)
	return on(t, a, b)
}

// on is another store and another pool of these disks.
func on(t *testing.T, a, b *disk.Disk) *ground {
	t.Helper()
	log := hashlog.New()
	s, e := shadow.New(a, first, a.Size()-first, log)
	wantCode(t, "shadow.New", e, api.OK)
	p, e := pool.New(b, first, b.Size()-first, log)
	wantCode(t, "pool.New", e, api.OK)
	for id := 1; id <= 2; id++ {
		wantCode(t, "Admit", p.Field().Admit(id, 0, p.Field().Size()), api.OK)
	}
	return &ground{nodes: a, blocks: b, s: s, pool: p}
}

// user is a view of a tenant, and plain volumes to which the same is done.
type user struct {
	*ground
	id     int
	master api.Key
	c      *keys.Counter
	x      *tenant.Tenant
	v      *thin.View
	p      *plain
	writes int
}

// fresh is a view of a tenant without volumes.
func (g *ground) fresh(t *testing.T, id int) *user {
	t.Helper()
	x, e := tenant.New(id, g.s, g.pool)
	wantCode(t, "tenant.New", e, api.OK)
	u := &user{ground: g, id: id, master: api.Key{byte(id), 31: 7}, c: counter(t, uint64(id)), x: x, p: &plain{state{}, state{}}}
	u.v = u.look(t)
	return u
}

// look is another view of the same.
func (u *user) look(t *testing.T) *thin.View {
	t.Helper()
	v, e := thin.New(u.x, u.pool, u.master, u.c)
	wantCode(t, "New", e, api.OK)
	return v
}

func counter(t *testing.T, epoch uint64) *keys.Counter {
	t.Helper()
	c, e := keys.Count(epoch)
	wantCode(t, "Count", e, api.OK)
	return c
}

func wantCode(t *testing.T, what string, e, want api.Errno) {
	t.Helper()
	if e != want {
		t.Fatalf("%s: %v, want %v", what, e, want)
	}
}

// text is the block of a write, unlike for each number; of 0, which stands for no write, noughts.
func text(n int) []byte {
	b := make([]byte, api.Sector)
	if n == 0 {
		return b
	}
	for i := range b {
		b[i] = byte(n*7 + i*n/3)
	}
	b[0], b[511] = byte(n), byte(n>>8)
	return b
}

func (u *user) create(t *testing.T, n, blocks int) {
	t.Helper()
	wantCode(t, "Create", u.x.Create(n, blocks), api.OK)
	u.p.working[n] = volume{blocks, map[int]int{}}
}

func (u *user) remove(t *testing.T, n int) {
	t.Helper()
	wantCode(t, "Remove", u.x.Remove(n), api.OK)
	delete(u.p.working, n)
}

func (u *user) snapshot(t *testing.T, from, to int) {
	t.Helper()
	wantCode(t, "Snapshot", u.x.Snapshot(from, to), api.OK)
	u.p.working[to] = state{1: u.p.working[from]}.clone()[1]
}

func (u *user) settle(t *testing.T) {
	t.Helper()
	l, e := u.x.Changes()
	wantCode(t, "Changes", e, api.OK)
	wantCode(t, "Settle", u.x.Settle(l), api.OK)
	u.p.kept = u.p.working.clone()
}

func (u *user) abort(t *testing.T) {
	t.Helper()
	wantCode(t, "Abort", u.x.Abort(), api.OK)
	u.p.working = u.p.kept.clone()
}

// write writes another block, which must be refused with that error, if it is one.
func (u *user) write(t *testing.T, n, block int, want api.Errno) {
	t.Helper()
	u.writes++
	wantCode(t, "Write", u.v.Write(n, block, text(u.writes)), want)
	if want == api.OK {
		u.p.working[n].written[block] = u.writes
	}
}

func (u *user) discard(t *testing.T, n, block int) {
	t.Helper()
	_, want := u.p.working[n].written[block]
	e := u.p.working.has(n, block)
	if was, code := u.v.Discard(n, block); was != want || code != e {
		t.Fatalf("Discard(%d, %d): %v, %v, want %v, %v", n, block, was, code, want, e)
	}
	if want {
		delete(u.p.working[n].written, block)
	}
}

// wantRead fails if a block is not read as it should.
func (u *user) wantRead(t *testing.T, n, block int) {
	t.Helper()
	want, e := text(u.p.working[n].written[block]), u.p.working.has(n, block)
	if e != api.OK {
		want = nil
	}
	if b, code := u.v.Read(n, block); !bytes.Equal(b, want) || code != e {
		t.Fatalf("Read(%d, %d): %d bytes, %v, want %v", n, block, len(b), code, e)
	}
}

// wantTold fails if a view does not tell what the plain volumes do.
func (u *user) wantTold(t *testing.T) {
	t.Helper()
	for n := -1; n <= api.MaxVolumes+1; n++ {
		v, there := u.p.working[n]
		asked := []int{-1, 0, v.blocks - 1, v.blocks, v.blocks + 1}
		for block := range v.written {
			asked = append(asked, block, block+1)
		}
		for _, block := range asked {
			u.wantRead(t, n, block)
		}
		want := api.ErrVolume
		if there {
			want = api.OK
		}
		if used, e := u.v.Used(n); used != len(v.written) || e != want {
			t.Fatalf("Used(%d): %d, %v, want %d, %v", n, used, e, len(v.written), want)
		}
	}
}

// wantHeld fails if other extents are held, or charged, than those that these users' volumes name.
func (g *ground) wantHeld(t *testing.T, l ...*user) {
	t.Helper()
	all, held, charges := 0, 0, map[int]int{}
	for _, u := range l {
		for _, times := range u.p.named() {
			all += times
			held++
			charges[u.id]++
		}
	}
	for extent := range g.pool.Field().Size() {
		times := g.pool.Field().Times(uint32(extent))
		all -= times
		held -= min(times, 1)
	}
	if all != 0 || held != 0 {
		t.Fatalf("%d times too few are extents held, and %d too few of them", all, held)
	}
	for id := 1; id <= api.MaxTenants; id++ {
		if got := g.pool.Field().Charge(id); got != charges[id] {
			t.Fatalf("the tenant %d is charged %d, want %d", id, got, charges[id])
		}
	}
	if g.s.Sweep() != 0 {
		t.Fatal("nodes are loose")
	}
}

// want fails if a user that is alone does not tell, or does not hold, what it should.
func (u *user) want(t *testing.T) {
	t.Helper()
	u.wantTold(t)
	u.wantHeld(t, u)
}

// place is where a block is, which was written.
func (u *user) place(t *testing.T, n, block int) entry.Block {
	t.Helper()
	at, written, e := u.x.Block(n, block)
	if !written || e != api.OK {
		t.Fatalf("Block(%d, %d): %v, %v", n, block, written, e)
	}
	return at
}

// wantSealed fails if a block does not stand in the pool as it is sealed, by hand, for its volume's Number with that stamp.
func (u *user) wantSealed(t *testing.T, n, block int, number, stamp uint64) {
	t.Helper()
	at := u.place(t, n, block)
	shown, e := u.blocks.Read(first + at.Ref.Sector)
	wantCode(t, "Read", e, api.OK)
	sealed, e := seal.Seal(u.master, number, stamp, text(u.p.working[n].written[block]))
	wantCode(t, "Seal", e, api.OK)
	if !bytes.Equal(shown, sealed) || at.Stamp != stamp {
		t.Fatalf("the block %d of the volume %d is not what is sealed for the Number %d with %d; its stamp is %d", block, n, number, stamp, at.Stamp)
	}
}

// fill holds leaves of its own till a store has no room; what it has made can be dropped.
func (g *ground) fill(t *testing.T) []api.Ref {
	t.Helper()
	var l []api.Ref
	for {
		r, e := g.s.Make(node.Node{Leaf: true, Keys: []uint64{uint64(len(l))}, Vals: [][44]byte{{255}}})
		if e == api.ErrFull {
			return l
		}
		wantCode(t, "Make", e, api.OK)
		wantCode(t, "Hold", g.s.Hold(r), api.OK)
		l = append(l, r)
	}
}

// drop drops what fill made.
func (g *ground) drop(t *testing.T, l []api.Ref) {
	t.Helper()
	for _, r := range l {
		wantCode(t, "Drop", g.s.Drop(r), api.OK)
	}
}

// down lets a disk be down; what waited is sure.
func down(t *testing.T, d *disk.Disk) {
	t.Helper()
	wantCode(t, "Flush", d.Flush(), api.OK)
	wantCode(t, "Fail", d.Fail(0), api.OK)
	wantCode(t, "Flush", d.Flush(), api.ErrDown)
}

// up lets it be up again.
func up(t *testing.T, d *disk.Disk) {
	t.Helper()
	wantCode(t, "Crash", d.Crash(nil), api.OK)
}

// replaced puts other bytes into a sector, does something, and puts back what was there.
func replaced(t *testing.T, d *disk.Disk, sector uint32, b []byte, do func()) {
	t.Helper()
	was, e := d.Read(sector)
	wantCode(t, "Read", e, api.OK)
	wantCode(t, "Tamper", d.Tamper(sector, b), api.OK)
	do()
	wantCode(t, "Tamper", d.Tamper(sector, was), api.OK)
}

// turned turns a digit of a sector, does something, and turns it back.
func turned(t *testing.T, d *disk.Disk, sector uint32, do func()) {
	t.Helper()
	b, e := d.Read(sector)
	wantCode(t, "Read", e, api.OK)
	noise := slices.Clone(b)
	noise[int(sector*37)%api.Sector] ^= 16
	replaced(t, d, sector, noise, do)
}

// shown is all that a disk shows.
func shown(t *testing.T, d *disk.Disk) [][]byte {
	t.Helper()
	var l [][]byte
	for sector := range d.Size() {
		b, e := d.Read(uint32(sector))
		wantCode(t, "Read", e, api.OK)
		l = append(l, b)
	}
	return l
}
