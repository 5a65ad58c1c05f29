package scrub_test

import (
	"bytes"
	"maps"
	"slices"
	"testing"

	"casemate/api"
	"casemate/core"
	"casemate/disk"
	"casemate/hashlog"
	"casemate/scrub"
	"casemate/tenant"
	"casemate/thin"
)

func wantCode(t *testing.T, what string, e, want api.Errno) {
	t.Helper()
	if e != want {
		t.Fatalf("%s: %v, want %v", what, e, want)
	}
}

// volume is how many blocks a volume has, and which of them were written.
type volume struct {
	blocks  int
	written map[int]bool
}

// state is a tenant's volumes.
type state map[int]volume

func (s state) clone() state {
	c := state{}
	for n, v := range s {
		c[n] = volume{v.blocks, maps.Clone(v.written)}
	}
	return c
}

// numbers is the volumes' numbers, rising.
func (s state) numbers() []int {
	return slices.Sorted(maps.Keys(s))
}

// report is what should be told of all of them, where nothing is bad.
func (s state) report() scrub.Report {
	r := scrub.Report{Volumes: len(s)}
	for _, v := range s {
		r.Blocks += len(v.written)
	}
	return r
}

// user is a tenant of a core: a view of it, and what its volumes should be, as they were committed and as they are now.
type user struct {
	id            int
	v             *thin.View
	kept, working state
}

// bed is a core, and its tenants.
type bed struct {
	d      *disk.Disk
	c      *core.Core
	l      map[int]*user
	writes int
}

// keyOf is some key, unlike for each number.
func keyOf(n int) api.Key {
	return api.Key{byte(n), byte(n >> 8), 31: 9}
}

// text is a block, unlike for each number.
func text(n int) []byte {
	b := bytes.Repeat([]byte{byte(n), byte(n >> 8), 3}, 171)[:512]
	b[511] = 77
	return b
}

// fresh is a core without tenants.
func fresh(t *testing.T, sectors int) *bed {
	t.Helper()
	d, e := disk.New(sectors)
	wantCode(t, "disk.New", e, api.OK)
	wantCode(t, "Format", core.Format(d), api.OK)
	b := &bed{d: d, l: map[int]*user{}}
	b.mount(t)
	return b
}

// mount mounts the disk: all is as it was committed last.
func (b *bed) mount(t *testing.T) {
	t.Helper()
	c, e := core.Mount(b.d, hashlog.New())
	wantCode(t, "Mount", e, api.OK)
	b.c = c
	for _, u := range b.l {
		u.v, u.working = b.open(t, u.id), u.kept.clone()
	}
}

func (b *bed) open(t *testing.T, id int) *thin.View {
	t.Helper()
	v, e := b.c.Open(id, keyOf(id))
	wantCode(t, "Open", e, api.OK)
	return v
}

// ids is the tenants' numbers, rising.
func (b *bed) ids() []int {
	return slices.Sorted(maps.Keys(b.l))
}

func (b *bed) add(t *testing.T, id, quota int) *user {
	t.Helper()
	wantCode(t, "Add", b.c.Add(id, keyOf(id), keyOf(100+id), keyOf(200+id), 0, quota), api.OK)
	u := &user{id: id, v: b.open(t, id), kept: state{}, working: state{}}
	b.l[id] = u
	return u
}

func (b *bed) shred(t *testing.T, id int) {
	t.Helper()
	wantCode(t, "Shred", b.c.Shred(id), api.OK)
	delete(b.l, id)
}

func (u *user) tenant() *tenant.Tenant {
	return u.v.Tenant()
}

func (u *user) create(t *testing.T, n, blocks int) {
	t.Helper()
	wantCode(t, "Create", u.tenant().Create(n, blocks), api.OK)
	u.working[n] = volume{blocks, map[int]bool{}}
}

func (u *user) remove(t *testing.T, n int) {
	t.Helper()
	wantCode(t, "Remove", u.tenant().Remove(n), api.OK)
	delete(u.working, n)
}

func (u *user) snapshot(t *testing.T, from, to int) {
	t.Helper()
	wantCode(t, "Snapshot", u.tenant().Snapshot(from, to), api.OK)
	u.working[to] = state{1: u.working[from]}.clone()[1]
}

func (u *user) resize(t *testing.T, n, blocks int) {
	t.Helper()
	wantCode(t, "Resize", u.tenant().Resize(n, blocks), api.OK)
	v := volume{blocks, maps.Clone(u.working[n].written)}
	maps.DeleteFunc(v.written, func(block int, _ bool) bool { return block >= blocks })
	u.working[n] = v
}

// put writes some blocks of a volume.
func (b *bed) put(t *testing.T, u *user, n int, blocks ...int) {
	t.Helper()
	for _, block := range blocks {
		b.writes++
		wantCode(t, "Write", u.v.Write(n, block, text(b.writes)), api.OK)
		u.working[n].written[block] = true
	}
}

func (u *user) discard(t *testing.T, n, block int) {
	t.Helper()
	was, e := u.v.Discard(n, block)
	if e != api.OK || was != u.working[n].written[block] {
		t.Fatalf("Discard(%d, %d): %v, %v", n, block, was, e)
	}
	delete(u.working[n].written, block)
}

func (b *bed) commit(t *testing.T, u *user) {
	t.Helper()
	wantCode(t, "Commit", b.c.Commit(u.id), api.OK)
	u.kept = u.working.clone()
}

func (b *bed) abort(t *testing.T, u *user) {
	t.Helper()
	wantCode(t, "Abort", b.c.Abort(u.id), api.OK)
	u.working = u.kept.clone()
}

// peopled is a core with the tenants 1, which has volumes of some sizes, committed and changed behind that, 2, which has one, 4, which has none, 6, which has one of which nothing is written, and 8, which has all.
func peopled(t *testing.T) *bed {
	t.Helper()
	b := fresh(t, 320)
	u := b.add(t, 1, 60)
	u.create(t, 1, 5)
	u.create(t, 3, 20)
	u.create(t, 8, 60)
	b.put(t, u, 1, 0, 4)
	b.put(t, u, 3, 3, 4, 5, 6, 7, 8, 9, 19)
	b.put(t, u, 8, 0, 1, 30, 58, 59)
	u.snapshot(t, 3, 4)
	b.commit(t, u)
	b.put(t, u, 3, 3, 10)
	b.put(t, u, 4, 0, 19)
	u.discard(t, 3, 5)
	w := b.add(t, 2, 30)
	w.create(t, 5, 3)
	b.put(t, w, 5, 0, 1, 2)
	b.commit(t, w)
	b.add(t, 4, 3)
	b.add(t, 6, 3).create(t, 1, 40)
	x := b.add(t, 8, 60)
	for n := 1; n <= 8; n++ {
		x.create(t, n, n)
		for block := n % 2; block < n; block++ {
			b.put(t, x, n, block)
		}
	}
	b.commit(t, x)
	return b
}

// wantLook fails if a tenant's report is another one.
func (b *bed) wantLook(t *testing.T, id int, want scrub.Report, code api.Errno) {
	t.Helper()
	if got, e := scrub.Look(b.c, id); got != want || e != code {
		t.Fatalf("Look(%d): %v, %v, want %v, %v", id, got, e, want, code)
	}
}

// wantBooks fails if the books are not right.
func (b *bed) wantBooks(t *testing.T) {
	t.Helper()
	if right, e := scrub.Books(b.c); !right || e != api.OK {
		t.Fatalf("Books: %v, %v", right, e)
	}
}

// wantAll fails if something is told bad, or the books are not right, or a round tells anything else than Look of all tenants together.
func (b *bed) wantAll(t *testing.T) {
	t.Helper()
	var all scrub.Report
	for id := -1; id <= 10; id++ {
		u := b.l[id]
		if u == nil {
			b.wantLook(t, id, scrub.Report{}, api.ErrTenant)
			continue
		}
		want := u.working.report()
		b.wantLook(t, id, want, api.OK)
		all = together(all, want)
	}
	b.wantBooks(t)
	r := b.round(t)
	for step := range all.Volumes {
		wantStep(t, r, false, api.OK)
		if r.Steps() != step+1 {
			t.Fatalf("Steps: %d, want %d", r.Steps(), step+1)
		}
	}
	for range 2 {
		wantRound(t, r, all)
		wantStep(t, r, true, api.OK)
	}
}

// together is two reports as one.
func together(a, b scrub.Report) scrub.Report {
	return scrub.Report{Volumes: a.Volumes + b.Volumes, Blocks: a.Blocks + b.Blocks, Bad: a.Bad + b.Bad}
}

// round is a round of the core, which has taken no step.
func (b *bed) round(t *testing.T) *scrub.Round {
	t.Helper()
	r, e := scrub.New(b.c)
	wantCode(t, "New", e, api.OK)
	wantRound(t, r, scrub.Report{})
	return r
}

// wantStep fails if a step tells anything else.
func wantStep(t *testing.T, r *scrub.Round, none bool, code api.Errno) {
	t.Helper()
	if got, e := r.Step(); got != none || e != code {
		t.Fatalf("Step: %v, %v, want %v, %v", got, e, none, code)
	}
}

// wantRound fails if a round has seen anything else.
func wantRound(t *testing.T, r *scrub.Round, want scrub.Report) {
	t.Helper()
	if got := r.Report(); got != want || r.Steps() != want.Volumes {
		t.Fatalf("Report %v, Steps %d, want %v", got, r.Steps(), want)
	}
}

// down lets a disk be down; what waited is sure.
func down(t *testing.T, d *disk.Disk) {
	t.Helper()
	wantCode(t, "Flush", d.Flush(), api.OK)
	wantCode(t, "Fail", d.Fail(0), api.OK)
	wantCode(t, "Flush", d.Flush(), api.ErrDown)
}

// up lets it be up again.
func up(t *testing.T, d *disk.Disk) {
	t.Helper()
	wantCode(t, "Crash", d.Crash(nil), api.OK)
}

// replaced puts other bytes into a sector, does something, and puts back what was there.
func replaced(t *testing.T, d *disk.Disk, sector uint32, b []byte, do func()) {
	t.Helper()
	was, e := d.Read(sector)
	wantCode(t, "Read", e, api.OK)
	wantCode(t, "Tamper", d.Tamper(sector, b), api.OK)
	do()
	wantCode(t, "Tamper", d.Tamper(sector, was), api.OK)
}

// turned turns a digit of a sector, does something, and turns it back.
func turned(t *testing.T, d *disk.Disk, sector uint32, do func()) {
	t.Helper()
	b, e := d.Read(sector)
	wantCode(t, "Read", e, api.OK)
	b[int(sector*37)%512] ^= 16
	replaced(t, d, sector, b, do)
}
