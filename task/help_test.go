package task_test

import (
	"bytes"
	"reflect"
	"slices"
	"testing"

	"casemate/api"
	"casemate/core"
	"casemate/disk"
	"casemate/entry"
	"casemate/hashlog"
	"casemate/reply"
	"casemate/req"
	"casemate/task"
	"casemate/tenant"
	"casemate/thin"
)

func wantCode(t *testing.T, what string, e, want api.Errno) {
	t.Helper()
	if e != want {
		t.Fatalf("%s: %v, want %v", what, e, want)
	}
}

// wantReply fails if a reply is another one.
func wantReply(t *testing.T, what string, got, want reply.Reply) {
	t.Helper()
	if got.E != want.E || got.Number != want.Number || !bytes.Equal(got.Data, want.Data) {
		t.Fatalf("%s: %v, %d, %d bytes, want %v, %d, %d bytes (or other ones)", what, got.E, got.Number, len(got.Data), want.E, want.Number, len(want.Data))
	}
}

// user is a tenant of a core: a view of it, and what its volumes should be, as they were committed and as they are now.
type user struct {
	id            int
	outer         api.Key
	v             *thin.View
	kept, working state
}

// bed is a core that is mounted on a disk, with tenants that tasks alone change, but at its beginning.
type bed struct {
	d      *disk.Disk
	c      *core.Core
	l      map[int]*user
	writes int
}

// fresh is a core without tenants.
func fresh(t *testing.T, sectors int) *bed {
	t.Helper()
	d, e := disk.New(sectors)
	wantCode(t, "disk.New", e, api.OK)
	wantCode(t, "Format", core.Format(d), api.OK)
	c, e := core.Mount(d, hashlog.New())
	wantCode(t, "Mount", e, api.OK)
	return &bed{d: d, c: c, l: map[int]*user{}}
}

// keyOf is some key, unlike for each number.
func keyOf(n int) api.Key {
	return api.Key{byte(n), byte(n >> 8), 31: 9}
}

// add adds a tenant.
func (b *bed) add(t *testing.T, id, reserve, quota int) *user {
	t.Helper()
	u := &user{id: id, outer: keyOf(id), kept: state{}, working: state{}}
	wantCode(t, "Add", b.c.Add(id, u.outer, keyOf(100+id), keyOf(200+id), reserve, quota), api.OK)
	u.v = b.open(t, u)
	b.l[id] = u
	return u
}

// open is another view of a tenant.
func (b *bed) open(t *testing.T, u *user) *thin.View {
	t.Helper()
	v, e := b.c.Open(u.id, u.outer)
	wantCode(t, "Open", e, api.OK)
	return v
}

func (u *user) tenant() *tenant.Tenant {
	return u.v.Tenant()
}

func (u *user) create(t *testing.T, n, blocks int) {
	t.Helper()
	wantCode(t, "Create", u.tenant().Create(n, blocks), api.OK)
	u.working[n] = volume{blocks, map[int]int{}}
}

// put writes some blocks of a volume.
func (b *bed) put(t *testing.T, u *user, n int, blocks ...int) {
	t.Helper()
	for _, block := range blocks {
		b.writes++
		wantCode(t, "Write", u.v.Write(n, block, text(b.writes)), api.OK)
		u.working[n].written[block] = b.writes
	}
}

func (b *bed) commit(t *testing.T, u *user) {
	t.Helper()
	wantCode(t, "Commit", b.c.Commit(u.id), api.OK)
	u.kept = u.working.clone()
}

func (b *bed) abort(t *testing.T, u *user) {
	t.Helper()
	wantCode(t, "Abort", b.c.Abort(u.id), api.OK)
	u.working = u.kept.clone()
}

// charge is how many extents a tenant should have: each write has one, however many blocks it is.
func (u *user) charge() int {
	writes := map[int]bool{}
	for _, s := range []state{u.kept, u.working} {
		for _, v := range s {
			for _, write := range v.written {
				writes[write] = true
			}
		}
	}
	return len(writes)
}

// peopled is a core with the tenants 1, which has volumes of some sizes, committed and changed behind that, 2, which has one, and 5, which has none.
func peopled(t *testing.T) *bed {
	t.Helper()
	return peopledOn(t, 400)
}

// peopledOn is the same on a disk of so many sectors.
func peopledOn(t *testing.T, sectors int) *bed {
	t.Helper()
	b := fresh(t, sectors)
	size := b.c.Field().Size()
	u := b.add(t, 1, 5, min(60, size))
	u.create(t, 1, 5)
	u.create(t, 2, 20)
	u.create(t, 8, 256)
	b.put(t, u, 1, 0, 2)
	b.put(t, u, 2, 3, 4, 5, 6, 7, 8, 9, 19)
	b.put(t, u, 8, 0, 1, 100, 254, 255)
	wantCode(t, "Snapshot", u.tenant().Snapshot(2, 4), api.OK)
	u.working[4] = u.working.clone()[2]
	b.commit(t, u)
	b.put(t, u, 2, 3, 10)
	b.put(t, u, 4, 0, 19)
	w := b.add(t, 2, 0, min(30, size))
	w.create(t, 1, 9)
	b.put(t, w, 1, 0, 1, 2)
	b.commit(t, w)
	b.add(t, 5, 3, 3)
	return b
}

// data is the Data of a Write of so many blocks, which are the next writes.
func (b *bed) data(blocks int) ([]byte, int) {
	var l []byte
	first := b.writes + 1
	for range blocks {
		b.writes++
		l = append(l, text(b.writes)...)
	}
	return l, first
}

func readOf(n, block, count int) *course {
	return &course{r: req.Request{Kind: req.Read, Session: 3, Volume: n, Block: block, Count: count}}
}

func (b *bed) writeOf(n, block, count int) *course {
	l, first := b.data(count)
	return &course{r: req.Request{Kind: req.Write, Session: 3, Volume: n, Block: block, Data: l}, first: first}
}

func discardOf(n, block, count int) *course {
	return &course{r: req.Request{Kind: req.Discard, Session: 3, Volume: n, Block: block, Count: count}}
}

// started is a task of a request.
func started(t *testing.T, r req.Request) *task.Task {
	t.Helper()
	k, e := task.Start(r)
	wantCode(t, "Start", e, api.OK)
	if k == nil {
		t.Fatal("there is no task")
	}
	return k
}

// wantOpen fails if a task does not tell that it did so many steps, and has not ended.
func wantOpen(t *testing.T, k *task.Task, steps, most int) {
	t.Helper()
	if k.Done() || k.Steps() != steps || k.Most() != most {
		t.Fatalf("Done %v, Steps %d, Most %d, want %d and %d", k.Done(), k.Steps(), k.Most(), steps, most)
	}
	wantReply(t, "the reply of a task that goes on", k.Reply(), reply.Reply{E: api.ErrState})
}

// wantEnded fails if a task does not tell that it has ended so.
func wantEnded(t *testing.T, k *task.Task, steps, most int, want reply.Reply) {
	t.Helper()
	if !k.Done() || k.Steps() != steps || k.Most() != most {
		t.Fatalf("Done %v, Steps %d, Most %d, want %d and %d", k.Done(), k.Steps(), k.Most(), steps, most)
	}
	wantReply(t, "Reply", k.Reply(), want)
	if _, e := reply.Encode(k.Reply()); e != api.OK {
		t.Fatalf("the reply may not be: %v", e)
	}
}

// mark is what must stay as it is, where nothing is done.
type mark struct {
	calls, used int
	gen         uint64
	tenants     []int
	roots       []entry.Root
	limits      [][3]int
	times       []int
}

func (b *bed) mark() mark {
	m := mark{calls: b.d.Calls(), used: b.c.Used(), gen: b.c.Gen(), tenants: b.c.Tenants()}
	for id := 1; id <= api.MaxTenants; id++ {
		x, _ := b.c.Tenant(id)
		reserve, quota, _ := b.c.Field().Limits(id)
		m.roots = append(m.roots, x.Root())
		m.limits = append(m.limits, [3]int{reserve, quota, b.c.Field().Charge(id)})
	}
	for extent := range b.c.Field().Size() {
		m.times = append(m.times, b.c.Field().Times(uint32(extent)))
	}
	return m
}

// wantAlike fails if two marks are unlike.
func wantAlike(t *testing.T, before, after mark) {
	t.Helper()
	if !reflect.DeepEqual(before, after) {
		t.Fatalf("there is\n%v, and was\n%v", after, before)
	}
}

// wantStill fails if something does anything.
func (b *bed) wantStill(t *testing.T, do func()) {
	t.Helper()
	before := b.mark()
	do()
	wantAlike(t, before, b.mark())
}

// wantIdle fails if further steps of a task that has ended do or tell anything else.
func (b *bed) wantIdle(t *testing.T, k *task.Task, v *thin.View) {
	t.Helper()
	steps, most, was := k.Steps(), k.Most(), k.Reply()
	b.wantStill(t, func() {
		if !k.Step(b.c, v) || !k.Step(b.c, nil) || !k.Step(nil, v) || !k.Step(nil, nil) || !k.Step(b.c, v) {
			t.Fatal("a task that has ended goes on")
		}
	})
	wantEnded(t, k, steps, most, was)
}

// run does a request to its end. It fails if the task does not tell on the way, and behind it, what it should.
func (b *bed) run(t *testing.T, r req.Request, v *thin.View) reply.Reply {
	t.Helper()
	most := (&course{r: r}).most()
	k := started(t, r)
	steps := 0
	for ended := false; !ended; steps++ {
		if steps == most {
			t.Fatalf("a task goes on behind %d steps", most)
		}
		wantOpen(t, k, steps, most)
		ended = k.Step(b.c, v)
	}
	got := k.Reply()
	wantEnded(t, k, steps, most, got)
	b.wantIdle(t, k, v)
	return got
}

// wantDone fails if a task of blocks does not answer what it should, or ends at another step.
func (b *bed) wantDone(t *testing.T, u *user, o *course) {
	t.Helper()
	want := o.end(u.working)
	wantReply(t, "a task of blocks", b.run(t, o.r, u.v), want)
}

// wantState fails if a tenant is not told as it should, block by block.
func (b *bed) wantState(t *testing.T, u *user) {
	t.Helper()
	for n := 0; n <= api.MaxVolumes+1; n++ {
		x, there := u.working[n]
		blocks := []int{-1, 0, 1, 2, 3, x.blocks - 2, x.blocks - 1, x.blocks}
		for block := range x.written {
			blocks = append(blocks, block, block+1)
		}
		for _, block := range blocks {
			want, code := text(x.written[block]), u.working.has(n, block)
			if code != api.OK {
				want = nil
			}
			if got, e := u.v.Read(n, block); e != code || !bytes.Equal(got, want) {
				t.Fatalf("Read(%d, %d): %d bytes, %v, want the write %d, %v", n, block, len(got), e, x.written[block], code)
			}
		}
		want := api.ErrVolume
		if there {
			want = api.OK
		}
		if used, e := u.v.Used(n); used != len(x.written) || e != want {
			t.Fatalf("Used(%d): %d, %v, want %d, %v", n, used, e, len(x.written), want)
		}
	}
	if got := b.c.Field().Charge(u.id); got != u.charge() {
		t.Fatalf("the charge of %d: %d, want %d", u.id, got, u.charge())
	}
}

// want fails if any tenant is not told as it should.
func (b *bed) want(t *testing.T) {
	t.Helper()
	for _, u := range b.l {
		b.wantState(t, u)
	}
}

// down lets a disk be down; what waited is sure.
func down(t *testing.T, d *disk.Disk) {
	t.Helper()
	wantCode(t, "Flush", d.Flush(), api.OK)
	wantCode(t, "Fail", d.Fail(0), api.OK)
	wantCode(t, "Flush", d.Flush(), api.ErrDown)
}

// up lets it be up again, with all that waited.
func up(t *testing.T, d *disk.Disk) {
	t.Helper()
	wantCode(t, "Crash", d.Crash(bytes.Repeat([]byte{255}, d.Waits()/8+1)), api.OK)
}

// turned turns a digit of a sector, does something, and turns it back, unless something else was written there.
func turned(t *testing.T, d *disk.Disk, sector uint32, do func()) {
	t.Helper()
	was, e := d.Read(sector)
	wantCode(t, "Read", e, api.OK)
	noise := slices.Clone(was)
	noise[int(sector*37)%api.Sector] ^= 16
	wantCode(t, "Tamper", d.Tamper(sector, noise), api.OK)
	do()
	if shown, e := d.Read(sector); e == api.OK && bytes.Equal(shown, noise) {
		wantCode(t, "Tamper", d.Tamper(sector, was), api.OK)
	}
}

// sectorOf is the sector of a block that was written.
func (b *bed) sectorOf(t *testing.T, u *user, n, block int) uint32 {
	t.Helper()
	at, written, e := u.tenant().Block(n, block)
	if !written || e != api.OK {
		t.Fatalf("Block(%d, %d): %v, %v", n, block, written, e)
	}
	return uint32(b.d.Size()-b.c.Field().Size()) + at.Ref.Sector
}
