package task_test

import (
	"bytes"
	"testing"

	"casemate/api"
	"casemate/core"
	"casemate/hashlog"
	"casemate/keys"
	"casemate/reply"
	"casemate/req"
	"casemate/slot"
	"casemate/super"
)

// requests of volumes.
func createOf(n, blocks int) req.Request {
	return req.Request{Kind: req.Create, Session: 3, Volume: n, Count: blocks}
}

func removeOf(n int) req.Request {
	return req.Request{Kind: req.Remove, Session: 3, Volume: n}
}

func resizeOf(n, blocks int) req.Request {
	return req.Request{Kind: req.Resize, Session: 3, Volume: n, Count: blocks}
}

func snapshotOf(from, to int) req.Request {
	return req.Request{Kind: req.Snapshot, Session: 3, Volume: from, To: to}
}

// requests of tenants.
func addOf(id, reserve, quota int) req.Request {
	return req.Request{Kind: req.Add, Tenant: id, Outer: keyOf(70), Master: keyOf(71), Salt: keyOf(72), Reserve: reserve, Quota: quota}
}

func limitOf(id, reserve, quota int) req.Request {
	return req.Request{Kind: req.Limit, Tenant: id, Reserve: reserve, Quota: quota}
}

func shredOf(id int) req.Request {
	return req.Request{Kind: req.Shred, Tenant: id}
}

func rotateOf(outer int) req.Request {
	return req.Request{Kind: req.Rotate, Session: 3, Outer: keyOf(outer), Fresh: keyOf(80), Salt: keyOf(81)}
}

// plainOf is a request of a kind that asks for nothing but its session.
func plainOf(kind int) req.Request {
	return req.Request{Kind: kind, Session: 3}
}

// wantTold fails if a request of the tenant 1 is not answered by that error alone; with one nothing may have changed.
func (b *bed) wantTold(t *testing.T, r req.Request, want api.Errno) {
	t.Helper()
	ask := func() { wantReply(t, "a request", b.run(t, r, b.l[1].v), reply.Reply{E: want}) }
	if want == api.OK {
		ask()
	} else {
		b.wantStill(t, ask)
	}
}

// P30.2: Create, with each of the errors that its arguments have, and as many volumes as there may be.
func TestCreate(t *testing.T) {
	b := peopled(t)
	u := b.l[1]
	for _, n := range []int{0, 9, 255} {
		for _, blocks := range []int{0, 1, 256, 257, 65535} {
			b.wantTold(t, createOf(n, blocks), api.ErrVolume)
		}
	}
	for n := 1; n <= 8; n++ {
		for _, blocks := range []int{0, 257, 65535} {
			b.wantTold(t, createOf(n, blocks), api.ErrArg)
		}
		if _, there := u.working[n]; there {
			b.wantTold(t, createOf(n, n), api.ErrThere)
			continue
		}
		blocks := []int{1, 256, 7}[n%3]
		b.wantTold(t, createOf(n, blocks), api.OK)
		u.working[n] = volume{blocks, map[int]int{}}
		b.wantTold(t, createOf(n, n), api.ErrThere)
		b.want(t)
	}
}

// P30.2: Remove.
func TestRemove(t *testing.T) {
	b := peopled(t)
	u := b.l[1]
	for _, n := range []int{0, 3, 5, 6, 7, 9, 255} {
		b.wantTold(t, removeOf(n), api.ErrVolume)
	}
	for _, n := range []int{2, 8, 1, 4} {
		b.wantTold(t, removeOf(n), api.OK)
		delete(u.working, n)
		b.wantTold(t, removeOf(n), api.ErrVolume)
		b.want(t)
	}
}

// P30.2: Resize, to fewer blocks and to more.
func TestResize(t *testing.T) {
	b := peopled(t)
	u := b.l[1]
	for _, n := range []int{0, 3, 9, 255} {
		for _, blocks := range []int{0, 5, 257} {
			b.wantTold(t, resizeOf(n, blocks), api.ErrVolume)
		}
	}
	for _, blocks := range []int{0, 257, 65535} {
		b.wantTold(t, resizeOf(2, blocks), api.ErrArg)
	}
	for _, blocks := range []int{19, 8, 256, 1, 20} {
		b.wantTold(t, resizeOf(2, blocks), api.OK)
		v := volume{blocks, map[int]int{}}
		for block, write := range u.working[2].written {
			if block < blocks {
				v.written[block] = write
			}
		}
		u.working[2] = v
		b.want(t)
	}
}

// P30.2: Snapshot, from Volume to To.
func TestSnapshot(t *testing.T) {
	b := peopled(t)
	u := b.l[1]
	for _, n := range []int{0, 3, 9, 255} {
		for _, to := range []int{0, 1, 3, 5, 9} {
			b.wantTold(t, snapshotOf(n, to), api.ErrVolume)
		}
		if n != 3 {
			b.wantTold(t, snapshotOf(1, n), api.ErrVolume)
		}
	}
	for _, to := range []int{1, 2, 4, 8} {
		b.wantTold(t, snapshotOf(2, to), api.ErrThere)
	}
	for i, to := range []int{3, 5, 7} {
		from := []int{2, 8, 3}[i]
		b.wantTold(t, snapshotOf(from, to), api.OK)
		u.working[to] = u.working.clone()[from]
		b.want(t)
	}
	b.wantDone(t, u, b.writeOf(3, 2, 8))
	b.want(t)
}

// P30.2: Commit and Abort, of the view's tenant alone: what was committed is there behind a crash, and nothing else.
func TestCommitAbort(t *testing.T) {
	b := peopled(t)
	u, w := b.l[1], b.l[2]
	b.put(t, w, 1, 5)
	b.wantTold(t, plainOf(req.Abort), api.OK)
	u.working = u.kept.clone()
	b.want(t)
	b.wantDone(t, u, b.writeOf(1, 0, 5))
	b.wantTold(t, plainOf(req.Commit), api.OK)
	u.kept = u.working.clone()
	b.want(t)
	b.wantDone(t, u, discardOf(1, 0, 5))
	b.wantTold(t, plainOf(req.Abort), api.OK)
	u.working = u.kept.clone()
	b.want(t)
	b.wantDone(t, u, discardOf(1, 0, 5))
	wantCode(t, "Crash", b.d.Crash(nil), api.OK)
	c, e := core.Mount(b.d, hashlog.New())
	wantCode(t, "Mount", e, api.OK)
	b.c = c
	for _, x := range b.l {
		x.v, x.working = b.open(t, x), x.kept.clone()
	}
	b.want(t)
}

// wantSlot fails if another slot stands at a place.
func (b *bed) wantSlot(t *testing.T, id, which int, want []byte) {
	t.Helper()
	s, e := slot.Place(id, which)
	wantCode(t, "Place", e, api.OK)
	if got, e := b.d.Sure(s); e != api.OK || !bytes.Equal(got, want) {
		t.Fatalf("the slot of %d, copy %d, is another one, %v", id, which, e)
	}
}

// P30.2: Rotate of the view's tenant: by its outer key alone, to the fresh one, with that salt; the view goes on.
func TestRotate(t *testing.T) {
	b := peopled(t)
	u := b.l[1]
	for _, outer := range []int{0, 2, 80, 101} {
		b.wantTold(t, rotateOf(outer), api.ErrKey)
	}
	b.wantTold(t, rotateOf(1), api.OK)
	b.wantSlot(t, 1, 0, slot.Blank())
	b.wantSlot(t, 1, 1, slot.Write(keys.Make(keyOf(80), keyOf(101), keyOf(81))))
	b.want(t)
	b.wantTold(t, rotateOf(1), api.ErrKey)
	if _, e := b.c.Open(1, u.outer); e != api.ErrKey {
		t.Errorf("Open: %v", e)
	}
	u.outer = keyOf(80)
	u.v = b.open(t, u)
	b.want(t)
	b.wantTold(t, rotateOf(80), api.OK)
}

// P30.2: Add of Tenant, with each of its errors.
func TestAdd(t *testing.T) {
	b := peopled(t)
	size, slack := b.c.Field().Size(), b.c.Field().Slack()
	for _, id := range []int{0, 9, 10, 255} {
		b.wantTold(t, addOf(id, 0, 0), api.ErrTenant)
		b.wantTold(t, addOf(id, 2, 1), api.ErrTenant)
	}
	for _, id := range []int{1, 2, 5} {
		b.wantTold(t, addOf(id, 0, 0), api.ErrThere)
		b.wantTold(t, addOf(id, 2, 1), api.ErrThere)
	}
	for _, limits := range [][2]int{{1, 0}, {65535, 65534}, {0, size + 1}, {65535, 65535}} {
		b.wantTold(t, addOf(3, limits[0], limits[1]), api.ErrArg)
	}
	b.wantTold(t, addOf(3, slack+1, size), api.ErrPool)
	b.wantTold(t, addOf(3, slack, size), api.OK)
	b.wantSlot(t, 3, 0, slot.Write(keys.Make(keyOf(70), keyOf(71), keyOf(72))))
	if reserve, quota, there := b.c.Field().Limits(3); reserve != slack || quota != size || !there {
		t.Errorf("the limits: %d, %d, %v", reserve, quota, there)
	}
	u := &user{id: 3, outer: keyOf(70), kept: state{}, working: state{}}
	u.v = b.open(t, u)
	b.l[3] = u
	b.want(t)
	b.wantTold(t, addOf(3, 0, 0), api.ErrThere)
}

// P30.2: Limit of Tenant, with each of its errors.
func TestLimit(t *testing.T) {
	b := peopled(t)
	size, charge, slack := b.c.Field().Size(), b.l[1].charge(), b.c.Field().Slack()
	for _, id := range []int{0, 3, 8, 9, 255} {
		b.wantTold(t, limitOf(id, 0, 0), api.ErrTenant)
		b.wantTold(t, limitOf(id, 1, 0), api.ErrTenant)
	}
	for _, limits := range [][2]int{{1, 0}, {61, 60}, {0, size + 1}, {65535, 65535}} {
		b.wantTold(t, limitOf(1, limits[0], limits[1]), api.ErrArg)
	}
	b.wantTold(t, limitOf(1, 0, charge-1), api.ErrQuota)
	b.wantTold(t, limitOf(1, charge+slack+1, size), api.ErrPool)
	for _, limits := range [][3]int{{2, 0, 3}, {1, 0, charge}, {1, charge + slack, size}, {5, 0, 0}} {
		b.wantTold(t, limitOf(limits[0], limits[1], limits[2]), api.OK)
		if reserve, quota, there := b.c.Field().Limits(limits[0]); reserve != limits[1] || quota != limits[2] || !there {
			t.Errorf("the limits: %d, %d, %v", reserve, quota, there)
		}
	}
	b.want(t)
}

// P30.2: Shred of Tenant.
func TestShred(t *testing.T) {
	b := peopled(t)
	for _, id := range []int{0, 3, 8, 9, 255} {
		b.wantTold(t, shredOf(id), api.ErrTenant)
	}
	for _, id := range []int{2, 5} {
		b.wantTold(t, shredOf(id), api.OK)
		delete(b.l, id)
		b.wantSlot(t, id, 0, slot.Blank())
		b.wantTold(t, shredOf(id), api.ErrTenant)
		b.want(t)
	}
	wantReply(t, "Shred", b.run(t, shredOf(1), nil), reply.Reply{})
	if len(b.c.Tenants()) > 0 || b.c.Used() > 0 {
		t.Error("there is something left")
	}
}

// wholes is requests that have to do with no blocks, all of which can be done to what is peopled.
func wholes() []req.Request {
	return []req.Request{createOf(3, 9), removeOf(2), resizeOf(2, 6), snapshotOf(2, 7), plainOf(req.Commit), plainOf(req.Abort), rotateOf(1), addOf(3, 1, 9), limitOf(1, 6, 50), shredOf(1), shredOf(2)}
}

// P30.2: each of these on a disk that goes down at each call: the error of the call below, alone, and just what that did.
func TestWholeDown(t *testing.T) {
	t.Parallel()
	for _, r := range wholes() {
		for calls := 0; ; calls++ {
			a, b := peopledOn(t, 260), peopledOn(t, 260)
			for _, x := range []*bed{a, b} {
				wantCode(t, "Fail", x.d.Fail(calls), api.OK)
			}
			want := whole(r, b.c, b.l[1].v)
			wantReply(t, "a task", a.run(t, r, a.l[1].v), reply.Reply{E: want})
			wantTwin(t, a, b)
			if want == api.OK {
				if calls == 0 && r.Kind != req.Abort {
					t.Errorf("the kind %d does nothing", r.Kind)
				}
				break
			}
			wantCode(t, "the call below", want, api.ErrDown)
		}
	}
}

// P30.2: each of these in a store that has no room: the error of the call below, alone, and just what that did. Abort needs no room.
func TestWholeFull(t *testing.T) {
	full := 0
	for _, r := range []req.Request{createOf(3, 9), removeOf(1), resizeOf(1, 2), snapshotOf(1, 7), plainOf(req.Commit), plainOf(req.Abort), rotateOf(1), addOf(5, 0, 9), limitOf(1, 0, 17), shredOf(1), shredOf(4)} {
		for _, written := range []int{0, 4, 7} {
			a, b := crowd(t, written), crowd(t, written)
			for _, x := range []*bed{a, b} {
				x.fill(t, x.l[3], 1, 256)
				x.last(t, 256)
			}
			want := whole(r, b.c, b.l[1].v)
			wantReply(t, "a task", a.run(t, r, a.l[1].v), reply.Reply{E: want})
			wantTwin(t, a, b)
			if want != api.OK {
				wantCode(t, "the call below", want, api.ErrFull)
				full++
			}
			if r.Kind == req.Abort {
				wantCode(t, "Abort", want, api.OK)
			}
		}
	}
	if full < 25 {
		t.Errorf("only %d were refused", full)
	}
}

// P30.2: each of these where somebody turned a node, the forest or the slot for which it asks: ErrIntegrity alone, and nothing has changed.
func TestWholeTurned(t *testing.T) {
	b := peopled(t)
	u := b.l[1]
	turned(t, b.d, u.tenant().Root().Ref.Sector, func() {
		for _, r := range append(wholes()[:6], shredOf(1), plainOf(req.Status)) {
			b.wantTold(t, r, api.ErrIntegrity)
		}
	})
	place, _ := slot.Place(1, 0)
	turned(t, b.d, place, func() { b.wantTold(t, rotateOf(1), api.ErrIntegrity) })
	shown, e := b.d.Reg()
	wantCode(t, "Reg", e, api.OK)
	r, e := super.ReadReg(shown)
	wantCode(t, "ReadReg", e, api.OK)
	head, _ := b.d.Read(uint32(r.Which))
	h, e := super.Read(head)
	wantCode(t, "Read", e, api.OK)
	turned(t, b.d, h.Root.Sector, func() {
		for _, r := range []req.Request{plainOf(req.Commit), rotateOf(1), limitOf(1, 6, 50), shredOf(2)} {
			b.wantTold(t, r, api.ErrIntegrity)
		}
	})
	b.want(t)
}
