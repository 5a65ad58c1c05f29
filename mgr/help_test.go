package mgr_test

import (
	"bytes"
	"reflect"
	"slices"
	"testing"

	"casemate/api"
	"casemate/core"
	"casemate/disk"
	"casemate/entry"
	"casemate/hashlog"
	"casemate/mgr"
	"casemate/reply"
	"casemate/req"
)

func wantCode(t *testing.T, what string, e, want api.Errno) {
	t.Helper()
	if e != want {
		t.Fatalf("%s: %v, want %v", what, e, want)
	}
}

// wantReply fails if a reply is another one.
func wantReply(t *testing.T, what string, got, want reply.Reply) {
	t.Helper()
	if got.E != want.E || got.Number != want.Number || !bytes.Equal(got.Data, want.Data) {
		t.Fatalf("%s: %v, %d, %d bytes, want %v, %d, %d bytes (or other ones)", what, got.E, got.Number, len(got.Data), want.E, want.Number, len(want.Data))
	}
}

// bed is a manager, and a plain one on a disk of its own: what is asked of one is asked of the other, and must be answered alike.
type bed struct {
	d      *disk.Disk
	m      *mgr.Manager
	p      *plain
	writes int
}

// formatted is a disk that was formatted.
func formatted(t *testing.T, sectors int) *disk.Disk {
	t.Helper()
	d, e := disk.New(sectors)
	wantCode(t, "disk.New", e, api.OK)
	wantCode(t, "Format", core.Format(d), api.OK)
	return d
}

// fresh is a manager of a disk without tenants.
func fresh(t *testing.T, sectors int) *bed {
	t.Helper()
	b := &bed{d: formatted(t, sectors), p: &plain{d: formatted(t, sectors), log: hashlog.New()}}
	var e api.Errno
	b.m, e = mgr.New(b.d, hashlog.New())
	wantCode(t, "New", e, api.OK)
	b.p.c, e = core.Mount(b.p.d, b.p.log)
	wantCode(t, "Mount", e, api.OK)
	b.wantAlike(t)
	return b
}

// account is what a core and its disk tell.
type account struct {
	calls, waits, used int
	gen, epoch         uint64
	tenants            []int
	roots              []entry.Root
	limits             [][3]int
}

func accountOf(d *disk.Disk, c *core.Core) account {
	a := account{calls: d.Calls(), waits: d.Waits(), used: c.Used(), gen: c.Gen(), epoch: c.Epoch(), tenants: c.Tenants()}
	for id := 1; id <= 8; id++ {
		x, _ := c.Tenant(id)
		reserve, quota, _ := c.Field().Limits(id)
		a.roots = append(a.roots, x.Root())
		a.limits = append(a.limits, [3]int{reserve, quota, c.Field().Charge(id)})
	}
	return a
}

// wantAlike fails if the manager does not tell what it should, through all calls that do nothing.
func (b *bed) wantAlike(t *testing.T) {
	t.Helper()
	if (b.m.Core() == nil) != (b.p.c == nil) {
		t.Fatal("there is a core, or not")
	}
	if got, want := accountOf(b.d, b.m.Core()), accountOf(b.p.d, b.p.c); !reflect.DeepEqual(got, want) {
		t.Fatalf("the core tells\n%v, want\n%v", got, want)
	}
	var numbers []int
	for _, s := range b.p.seats {
		numbers = append(numbers, s.number)
	}
	slices.Sort(numbers)
	if got := b.m.Sessions(); !slices.Equal(got, numbers) {
		t.Fatalf("Sessions: %v, want %v", got, numbers)
	}
	for id := -1; id <= 10; id++ {
		want := 0
		if id > 0 && id < 9 {
			want = len(b.p.lanes[id])
		}
		if got := b.m.Waits(id); got != want {
			t.Fatalf("Waits(%d): %d, want %d", id, got, want)
		}
	}
}

// submit submits bytes to both.
func (b *bed) submit(t *testing.T, l []byte) (uint64, api.Errno) {
	t.Helper()
	got, e := b.m.Submit(l)
	want, code := b.p.submit(l)
	if got != want || e != code {
		t.Fatalf("Submit: %d, %v, want %d, %v", got, e, want, code)
	}
	b.wantAlike(t)
	return got, e
}

// wantAnswer fails if a pick tells anything else.
func (b *bed) wantAnswer(t *testing.T, got, want answer) {
	t.Helper()
	if got.ticket != want.ticket || got.ended != want.ended || got.e != want.e {
		t.Fatalf("a pick tells %d, %v, %v, want %d, %v, %v", got.ticket, got.ended, got.e, want.ticket, want.ended, want.e)
	}
	wantReply(t, "the reply of a pick", got.r, want.r)
	if _, e := reply.Encode(got.r); e != api.OK {
		t.Fatalf("the reply may not be: %v", e)
	}
	b.wantAlike(t)
}

// pick picks a lane of both.
func (b *bed) pick(t *testing.T, id int) answer {
	t.Helper()
	var got answer
	got.ticket, got.r, got.ended, got.e = b.m.Pick(id)
	b.wantAnswer(t, got, b.p.pick(id))
	return got
}

// next picks the next lane of both.
func (b *bed) next(t *testing.T) answer {
	t.Helper()
	var got answer
	got.ticket, got.r, got.ended, got.e = b.m.Next()
	b.wantAnswer(t, got, b.p.next())
	return got
}

// crash crashes both.
func (b *bed) crash(t *testing.T, keep []byte) api.Errno {
	t.Helper()
	got, want := b.m.Crash(keep), b.p.crash(keep)
	wantCode(t, "Crash", got, want)
	b.wantAlike(t)
	return got
}

// disks does something to both disks.
func (b *bed) disks(t *testing.T, do func(d *disk.Disk) api.Errno) {
	t.Helper()
	wantCode(t, "a call of a disk", do(b.d), api.OK)
	wantCode(t, "a call of a disk", do(b.p.d), api.OK)
}

// fail plans on both disks that calls tell ErrDown.
func (b *bed) fail(t *testing.T, calls int) {
	t.Helper()
	b.disks(t, func(d *disk.Disk) api.Errno { return d.Fail(calls) })
}

// turn turns a digit of a sector of both disks, or turns it back.
func (b *bed) turn(t *testing.T, s uint32) {
	t.Helper()
	b.disks(t, func(d *disk.Disk) api.Errno {
		shown, e := d.Read(s)
		wantCode(t, "Read", e, api.OK)
		shown[int(s*37)%512] ^= 16
		return d.Tamper(s, shown)
	})
}

// wantTwin fails if the disks are unlike, by any sector or by the register.
func (b *bed) wantTwin(t *testing.T) {
	t.Helper()
	x, _ := b.d.Reg()
	if y, _ := b.p.d.Reg(); x != y {
		t.Fatal("the registers are unlike")
	}
	for s := range uint32(b.d.Size()) {
		x, _ := b.d.Read(s)
		y, _ := b.p.d.Read(s)
		sure, _ := b.d.Sure(s)
		want, _ := b.p.d.Sure(s)
		if !bytes.Equal(x, y) || !bytes.Equal(sure, want) {
			t.Fatalf("the sector %d is unlike", s)
		}
	}
}

// encoded is a request's bytes.
func encoded(t *testing.T, r req.Request) []byte {
	t.Helper()
	l, e := req.Encode(r)
	wantCode(t, "Encode", e, api.OK)
	return l
}

// wait submits a request, which waits then: its ticket.
func (b *bed) wait(t *testing.T, r req.Request) uint64 {
	t.Helper()
	ticket, e := b.submit(t, encoded(t, r))
	wantCode(t, "Submit", e, api.OK)
	return ticket
}

// wantRefused fails if a request is not refused by that error.
func (b *bed) wantRefused(t *testing.T, r req.Request, want api.Errno) {
	t.Helper()
	_, e := b.submit(t, encoded(t, r))
	wantCode(t, "Submit", e, want)
}

// end picks a lane till the request at which it is has ended: its reply, and how many picks it took.
func (b *bed) end(t *testing.T, id int, ticket uint64) (reply.Reply, int) {
	t.Helper()
	for picks := 1; ; picks++ {
		got := b.pick(t, id)
		wantCode(t, "Pick", got.e, api.OK)
		if got.ticket != ticket {
			t.Fatalf("Pick tells the ticket %d, want %d", got.ticket, ticket)
		}
		if got.ended {
			return got.r, picks
		}
	}
}

// ask does a request in a lane in which nothing waits.
func (b *bed) ask(t *testing.T, id int, r req.Request) reply.Reply {
	t.Helper()
	got, _ := b.end(t, id, b.wait(t, r))
	return got
}

// must does one that may be done.
func (b *bed) must(t *testing.T, id int, r req.Request) reply.Reply {
	t.Helper()
	got := b.ask(t, id, r)
	wantCode(t, "a reply", got.E, api.OK)
	return got
}

// keyOf is some key, unlike for each number.
func keyOf(n int) api.Key {
	return api.Key{byte(n), byte(n >> 8), 31: 9}
}

// open is a session of a tenant.
func (b *bed) open(t *testing.T, id int) int {
	t.Helper()
	return b.must(t, id, openOf(id, id)).Number
}

// text is the block of a write, unlike for each number.
func text(n int) []byte {
	b := make([]byte, api.Sector)
	for i := range b {
		b[i] = byte(n*7 + i*n/3)
	}
	b[0], b[511] = byte(n), byte(n>>8)
	return b
}

// data is so many blocks, unlike all ahead of them.
func (b *bed) data(blocks int) []byte {
	var l []byte
	for range blocks {
		b.writes++
		l = append(l, text(b.writes)...)
	}
	return l
}

// Requests. Those of a session have its number first.
func openOf(id, key int) req.Request {
	return req.Request{Kind: req.Open, Tenant: id, Outer: keyOf(key)}
}

func addOf(id, reserve, quota int) req.Request {
	return req.Request{Kind: req.Add, Tenant: id, Outer: keyOf(id), Master: keyOf(100 + id), Salt: keyOf(200 + id), Reserve: reserve, Quota: quota}
}

func limitOf(id, reserve, quota int) req.Request {
	return req.Request{Kind: req.Limit, Tenant: id, Reserve: reserve, Quota: quota}
}

func shredOf(id int) req.Request {
	return req.Request{Kind: req.Shred, Tenant: id}
}

// plainOf is a request of a kind that asks for nothing but its session.
func plainOf(s, kind int) req.Request {
	return req.Request{Kind: kind, Session: s}
}

func readOf(s, n, block, count int) req.Request {
	return req.Request{Kind: req.Read, Session: s, Volume: n, Block: block, Count: count}
}

func writeOf(s, n, block int, data []byte) req.Request {
	return req.Request{Kind: req.Write, Session: s, Volume: n, Block: block, Data: data}
}

func discardOf(s, n, block, count int) req.Request {
	return req.Request{Kind: req.Discard, Session: s, Volume: n, Block: block, Count: count}
}

func createOf(s, n, blocks int) req.Request {
	return req.Request{Kind: req.Create, Session: s, Volume: n, Count: blocks}
}

func removeOf(s, n int) req.Request {
	return req.Request{Kind: req.Remove, Session: s, Volume: n}
}

func resizeOf(s, n, blocks int) req.Request {
	return req.Request{Kind: req.Resize, Session: s, Volume: n, Count: blocks}
}

func snapshotOf(s, from, to int) req.Request {
	return req.Request{Kind: req.Snapshot, Session: s, Volume: from, To: to}
}

func rotateOf(s, outer, fresh int) req.Request {
	return req.Request{Kind: req.Rotate, Session: s, Outer: keyOf(outer), Fresh: keyOf(fresh), Salt: keyOf(81)}
}

// peopled is a manager of the tenants 1, which has volumes, committed and changed behind that, 2, which has one, and 5, which has none. The sessions 1, 2 and 3 are of these.
func peopled(t *testing.T) *bed {
	t.Helper()
	b := fresh(t, 300)
	for i, id := range []int{1, 2, 5} {
		b.must(t, id, addOf(id, []int{5, 0, 3}[i], []int{40, 20, 3}[i]))
		if s := b.open(t, id); s != i+1 {
			t.Fatalf("the session %d, want %d", s, i+1)
		}
	}
	b.must(t, 1, createOf(1, 1, 5))
	b.must(t, 1, createOf(1, 2, 20))
	b.must(t, 1, writeOf(1, 1, 0, b.data(3)))
	b.must(t, 1, writeOf(1, 2, 3, b.data(8)))
	b.must(t, 1, snapshotOf(1, 2, 4))
	b.must(t, 1, plainOf(1, req.Commit))
	b.must(t, 1, writeOf(1, 2, 10, b.data(2)))
	b.must(t, 2, createOf(2, 1, 9))
	b.must(t, 2, writeOf(2, 1, 0, b.data(3)))
	b.must(t, 2, plainOf(2, req.Commit))
	return b
}
