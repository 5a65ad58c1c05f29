package core_test

import (
	"bytes"
	"math"
	"slices"
	"testing"

	"casemate/api"
	"casemate/core"
	"casemate/disk"
	"casemate/hashlog"
	"casemate/slot"
	"casemate/super"
	"casemate/tenant"
	"casemate/thin"
)

// bed is a core that is mounted on a disk, and the tenants that there should be.
type bed struct {
	d      *disk.Disk
	log    *hashlog.Log
	c      *core.Core
	l      users
	views  map[int]*thin.View
	writes int
	gen    uint64
	epoch  uint64
	last   uint64 // the stamp that came last, on this disk
}

func wantCode(t *testing.T, what string, e, want api.Errno) {
	t.Helper()
	if e != want {
		t.Fatalf("%s: %v, want %v", what, e, want)
	}
}

// blankDisk is a disk of noughts.
func blankDisk(t *testing.T, sectors int) *disk.Disk {
	t.Helper()
	d, e := disk.New(sectors)
	wantCode(t, "disk.New", e, api.OK)
	return d
}

// formatted is a disk that was formatted.
func formatted(t *testing.T, sectors int) *disk.Disk {
	t.Helper()
	d := blankDisk(t, sectors)
	wantCode(t, "Format", core.Format(d), api.OK)
	return d
}

// fresh is a core without tenants.
func fresh(t *testing.T, sectors int) *bed {
	t.Helper()
	return mount(t, formatted(t, sectors), users{}, 0)
}

// mount mounts a disk on which these tenants should be, as they were committed last.
func mount(t *testing.T, d *disk.Disk, l users, writes int) *bed {
	t.Helper()
	r := register(t, d)
	log := hashlog.New()
	c, e := core.Mount(d, log)
	wantCode(t, "Mount", e, api.OK)
	return &bed{d: d, log: log, c: c, l: l.mounted(), views: map[int]*thin.View{}, writes: writes, gen: r.Gen, epoch: r.Epoch + 1}
}

// register is a disk's register.
func register(t *testing.T, d *disk.Disk) super.Register {
	t.Helper()
	b, e := d.Reg()
	wantCode(t, "Reg", e, api.OK)
	r, e := super.ReadReg(b)
	wantCode(t, "ReadReg", e, api.OK)
	return r
}

// again crashes the disk, which keeps some of what waited, and mounts it anew.
func (b *bed) again(t *testing.T, keep []byte) {
	t.Helper()
	wantCode(t, "Crash", b.d.Crash(keep), api.OK)
	last := b.last
	*b = *mount(t, b.d, b.l, b.writes)
	b.last = last
}

// image is a disk that shows for each sector one of two things.
func image(t *testing.T, d *disk.Disk, sure func(sector uint32) bool) *disk.Disk {
	t.Helper()
	c := blankDisk(t, d.Size())
	for s := range uint32(d.Size()) {
		b, e := d.Read(s)
		wantCode(t, "Read", e, api.OK)
		if sure(s) {
			b, e = d.Sure(s)
			wantCode(t, "Sure", e, api.OK)
		}
		if !bytes.Equal(b, make([]byte, 512)) {
			wantCode(t, "Write", c.Write(s, b), api.OK)
		}
	}
	wantCode(t, "Flush", c.Flush(), api.OK)
	r, e := d.Reg()
	wantCode(t, "Reg", e, api.OK)
	wantCode(t, "SetReg", c.SetReg(r), api.OK)
	return c
}

// shown is a disk that shows the same, for sure.
func shown(t *testing.T, d *disk.Disk) *disk.Disk {
	t.Helper()
	return image(t, d, func(uint32) bool { return false })
}

// keyOf is some key, unlike for each number.
func keyOf(n int) api.Key {
	return api.Key{byte(n), byte(n >> 8), 31: 9}
}

// add adds a tenant, or is refused.
func (b *bed) add(t *testing.T, id, reserve, quota int, want api.Errno) {
	t.Helper()
	b.writes++
	u := &user{outer: keyOf(b.writes), master: keyOf(-b.writes), salt: keyOf(3 * b.writes), reserve: reserve, quota: quota, kept: state{}, working: state{}}
	wantCode(t, "Add", b.c.Add(id, u.outer, u.master, u.salt, reserve, quota), want)
	if want == api.OK {
		b.l[id] = u
		b.gen++
	}
}

// view is a view of a tenant, which stays the same while that is there.
func (b *bed) view(t *testing.T, id int) *thin.View {
	t.Helper()
	if b.views[id] == nil {
		v, e := b.c.Open(id, b.l[id].outer)
		wantCode(t, "Open", e, api.OK)
		b.views[id] = v
	}
	return b.views[id]
}

// tenant is a tenant that there is.
func (b *bed) tenant(t *testing.T, id int) *tenant.Tenant {
	t.Helper()
	x, e := b.c.Tenant(id)
	wantCode(t, "Tenant", e, api.OK)
	return x
}

func (b *bed) create(t *testing.T, id, n, blocks int) {
	t.Helper()
	wantCode(t, "Create", b.tenant(t, id).Create(n, blocks), api.OK)
	b.l[id].working[n] = volume{blocks, map[int]int{}}
}

func (b *bed) remove(t *testing.T, id, n int) {
	t.Helper()
	wantCode(t, "Remove", b.tenant(t, id).Remove(n), api.OK)
	delete(b.l[id].working, n)
}

func (b *bed) snapshot(t *testing.T, id, from, to int) {
	t.Helper()
	wantCode(t, "Snapshot", b.tenant(t, id).Snapshot(from, to), api.OK)
	b.l[id].working[to] = state{1: b.l[id].working[from]}.clone()[1]
}

func (b *bed) write(t *testing.T, id, n, block int, want api.Errno) {
	t.Helper()
	b.writes++
	wantCode(t, "Write", b.view(t, id).Write(n, block, text(b.writes)), want)
	if want != api.OK {
		return
	}
	b.l[id].working[n].written[block] = b.writes
	at, written, e := b.tenant(t, id).Block(n, block)
	if !written || e != api.OK || at.Stamp <= b.last || at.Stamp>>40 != b.epoch {
		t.Fatalf("Block: %v, %v, %v, behind the stamp %d", at, written, e, b.last)
	}
	b.last = at.Stamp
}

func (b *bed) discard(t *testing.T, id, n, block int) {
	t.Helper()
	_, want := b.l[id].working[n].written[block]
	if was, e := b.view(t, id).Discard(n, block); was != want || e != api.OK {
		t.Fatalf("Discard(%d, %d): %v, %v, want %v", n, block, was, e, want)
	}
	delete(b.l[id].working[n].written, block)
}

func (b *bed) commit(t *testing.T, id int) {
	t.Helper()
	wantCode(t, "Commit", b.c.Commit(id), api.OK)
	b.l[id].kept = b.l[id].working.clone()
	b.gen++
}

func (b *bed) abort(t *testing.T, id int) {
	t.Helper()
	wantCode(t, "Abort", b.c.Abort(id), api.OK)
	b.l[id].working = b.l[id].kept.clone()
}

func (b *bed) rotate(t *testing.T, id int) {
	t.Helper()
	b.writes++
	u := b.l[id]
	fresh, salt := keyOf(b.writes), [32]byte(keyOf(5*b.writes))
	wantCode(t, "Rotate", b.c.Rotate(id, u.outer, fresh, salt), api.OK)
	u.outer, u.salt, u.place = fresh, salt, 1-u.place
	b.gen++
}

func (b *bed) limit(t *testing.T, id, reserve, quota int) {
	t.Helper()
	wantCode(t, "Limit", b.c.Limit(id, reserve, quota), api.OK)
	b.l[id].reserve, b.l[id].quota = reserve, quota
	b.gen++
}

func (b *bed) shred(t *testing.T, id int) {
	t.Helper()
	wantCode(t, "Shred", b.c.Shred(id), api.OK)
	delete(b.l, id)
	delete(b.views, id)
	b.gen++
}

// wantBlock fails if a view does not read a block as it should.
func wantBlock(t *testing.T, v *thin.View, s state, n, block int) {
	t.Helper()
	want, code := text(s[n].written[block]), s.has(n, block)
	if code != api.OK {
		want = nil
	}
	if got, e := v.Read(n, block); e != code || !bytes.Equal(got, want) {
		t.Fatalf("Read(%d, %d): %d bytes, %v, want the write %d, %v", n, block, len(got), e, s[n].written[block], code)
	}
}

// wantState fails if a view does not tell these volumes.
func wantState(t *testing.T, v *thin.View, s state) {
	t.Helper()
	for n := 0; n <= api.MaxVolumes+1; n++ {
		x, there := s[n]
		for block := -1; block <= x.blocks; block++ {
			wantBlock(t, v, s, n, block)
		}
		want := api.ErrVolume
		if there {
			want = api.OK
		}
		if used, e := v.Used(n); used != len(x.written) || e != want {
			t.Fatalf("Used(%d): %d, %v, want %d, %v", n, used, e, len(x.written), want)
		}
	}
}

// wantTenant fails if a tenant is not told as it should, through all calls that change nothing.
func (b *bed) wantTenant(t *testing.T, id int) {
	t.Helper()
	u := b.l[id]
	v, e := b.c.Open(id, u.outer)
	wantCode(t, "Open", e, api.OK)
	if x := b.tenant(t, id); v.Tenant() != x || x.ID() != id {
		t.Fatal("the view is one of another tenant")
	}
	wantState(t, v, u.working)
	if reserve, quota, there := b.c.Field().Limits(id); reserve != u.reserve || quota != u.quota || !there {
		t.Fatalf("the limits of %d: %d, %d, %v, want %d, %d", id, reserve, quota, there, u.reserve, u.quota)
	}
	if got := b.c.Field().Charge(id); got != u.charge() {
		t.Fatalf("the charge of %d: %d, want %d", id, got, u.charge())
	}
	v, e = b.c.Open(id, keyOf(60000))
	if v != nil || e != api.ErrKey {
		t.Fatalf("Open with another key: %v, %v", v, e)
	}
}

// wantNobody fails if there is anything of a tenant that there is not.
func (b *bed) wantNobody(t *testing.T, id int) {
	t.Helper()
	if x, e := b.c.Tenant(id); x != nil || e != api.ErrTenant {
		t.Fatalf("Tenant(%d): %v, %v", id, x, e)
	}
	if v, e := b.c.Open(id, keyOf(1)); v != nil || e != api.ErrTenant {
		t.Fatalf("Open(%d): %v, %v", id, v, e)
	}
	if reserve, quota, there := b.c.Field().Limits(id); there || reserve != 0 || quota != 0 || b.c.Field().Charge(id) != 0 {
		t.Fatalf("%d is still admitted", id)
	}
}

// want fails if a core does not tell what it should.
func (b *bed) want(t *testing.T) {
	t.Helper()
	if got := b.c.Tenants(); !slices.Equal(got, b.l.list()) {
		t.Fatalf("Tenants: %v, want %v", got, b.l.list())
	}
	for id := 1; id <= api.MaxTenants; id++ {
		if b.l[id] != nil {
			b.wantTenant(t, id)
		} else {
			b.wantNobody(t, id)
		}
	}
	for _, id := range []int{math.MinInt, -1, 0, 9, 1 << 32, 1<<32 + 1, math.MaxInt} {
		b.wantNobody(t, id)
	}
	b.wantBooks(t)
	if b.c.Gen() != b.gen || b.c.Epoch() != b.epoch || b.c.Clash() {
		t.Fatalf("Gen %d, Epoch %d, Clash %v, want %d, %d", b.c.Gen(), b.c.Epoch(), b.c.Clash(), b.gen, b.epoch)
	}
}

// wantBooks fails if other extents are held than those that the tenants' blocks name.
func (b *bed) wantBooks(t *testing.T) {
	t.Helper()
	held, charges := 0, 0
	for extent := range uint32(b.c.Field().Size()) {
		held += min(b.c.Field().Times(extent), 1)
	}
	for _, u := range b.l {
		charges += u.charge()
	}
	if held != charges {
		t.Fatalf("%d extents are held, want %d", held, charges)
	}
}

// wantSlots fails if another slot stands on a disk than those of its tenants, each in its place, for sure.
func wantSlots(t *testing.T, d *disk.Disk, l users) {
	t.Helper()
	for id := 1; id <= api.MaxTenants; id++ {
		for which := range 2 {
			s, e := slot.Place(id, which)
			wantCode(t, "Place", e, api.OK)
			want := make([]byte, 512)
			if u := l[id]; u != nil && u.place == which {
				want = u.slot()
			}
			got, e := d.Sure(s)
			wantCode(t, "Sure", e, api.OK)
			if !bytes.Equal(got, want) {
				t.Fatalf("the sector %d is not as it should, of the tenant %d, copy %d", s, id, which)
			}
		}
	}
}

// wantAnew fails if a disk, mounted anew, has other tenants, or others' slots.
func wantAnew(t *testing.T, d *disk.Disk, l users, writes int) {
	t.Helper()
	b := mount(t, d, l, writes)
	b.want(t)
	wantSlots(t, d, b.l)
	if r := register(t, d); r.Epoch != b.epoch || r.Gen != b.gen {
		t.Fatalf("the register has %d, %d", r.Epoch, r.Gen)
	}
}

// wantLasts fails if a disk that crashed now, and kept of what waits nothing, all, or some, would not be as it was committed last.
func (b *bed) wantLasts(t *testing.T) {
	t.Helper()
	for _, sure := range []func(uint32) bool{
		func(uint32) bool { return true },
		func(uint32) bool { return false },
		func(s uint32) bool { return s%2 == 0 },
		func(s uint32) bool { return s%3 == 0 },
	} {
		wantAnew(t, image(t, b.d, sure), b.l, b.writes)
	}
}

// wantAll fails if a core does not tell what it should, or a crash would lose something.
func (b *bed) wantAll(t *testing.T) {
	t.Helper()
	b.want(t)
	wantSlots(t, b.d, b.l)
	b.wantLasts(t)
}

// peopled is a core with some tenants that have volumes, and with what they have not committed. The tenant 2 has its slot in its other place, 5 has no volumes.
func peopled(t *testing.T) *bed {
	t.Helper()
	return peopledOn(t, 200)
}

// peopledOn is the same on a disk of so many sectors.
func peopledOn(t *testing.T, sectors int) *bed {
	t.Helper()
	b := fresh(t, sectors)
	for i, id := range []int{1, 2, 8} {
		b.add(t, id, 4*i, 20, api.OK)
		for n := 1; n <= 2; n++ {
			b.create(t, id, n, 3+i+n)
			for block := range 3 {
				b.write(t, id, n, block, api.OK)
			}
		}
		b.snapshot(t, id, 2, 3)
		b.commit(t, id)
	}
	b.add(t, 5, 0, 9, api.OK)
	b.rotate(t, 2)
	b.unsaved(t)
	return b
}

// unsaved does some things that are not committed.
func (b *bed) unsaved(t *testing.T) {
	t.Helper()
	for _, id := range []int{1, 2, 8} {
		b.write(t, id, 1, 1, api.OK)
		b.write(t, id, 3, 3, api.OK)
		b.discard(t, id, 2, 0)
	}
	b.snapshot(t, 1, 1, 4)
	b.remove(t, 8, 1)
}
