package task_test

import (
	"encoding/binary"
	"testing"

	"casemate/api"
	"casemate/reply"
	"casemate/req"
)

// status is what a Status of a tenant with these limits should be answered, put together in another way.
func (u *user) status(reserve, quota int) reply.Reply {
	var b []byte
	add := func(n int) { b = binary.BigEndian.AppendUint16(b, uint16(n)) }
	add(u.charge())
	add(reserve)
	add(quota)
	for n := 1; n <= 8; n++ {
		add(u.working[n].blocks)
		add(len(u.working[n].written))
	}
	return reply.Reply{Data: b}
}

// wantStatus fails if a tenant's Status is answered otherwise, or changes anything.
func (b *bed) wantStatus(t *testing.T, u *user, reserve, quota int) {
	t.Helper()
	b.wantStill(t, func() {
		wantReply(t, "Status", b.run(t, plainOf(req.Status), u.v), u.status(reserve, quota))
	})
}

// P30.2: Status of tenants with no volume, and with some, whatever was committed, and whatever others do.
func TestStatus(t *testing.T) {
	b := peopled(t)
	u, w, x := b.l[1], b.l[2], b.l[5]
	all := func() {
		t.Helper()
		b.wantStatus(t, u, 5, 60)
		b.wantStatus(t, w, 0, 30)
		b.wantStatus(t, x, 3, 3)
	}
	all()
	b.put(t, w, 1, 8)
	all()
	b.wantDone(t, u, discardOf(2, 0, 20))
	all()
	b.commit(t, u)
	all()
	b.wantDone(t, u, b.writeOf(8, 120, 8))
	b.abort(t, w)
	all()
	x.create(t, 3, 3)
	all()
	b.put(t, x, 3, 2, 0)
	all()
	b.abort(t, u)
	all()
	wantCode(t, "Limit", b.c.Limit(1, 0, 61), api.OK)
	b.wantStatus(t, u, 0, 61)
	s, e := reply.ReadStatus(b.run(t, plainOf(req.Status), x.v).Data)
	if want := (reply.Status{Charge: 2, Reserve: 3, Quota: 3, Blocks: [8]int{2: 3}, Used: [8]int{2: 2}}); s != want || e != api.OK {
		t.Errorf("ReadStatus: %v, %v, want %v", s, e, want)
	}
}

// P30.2: Status of a tenant with all volumes, of one block to the most, of which all are written, some, or none.
func TestStatusOfAll(t *testing.T) {
	b := fresh(t, 1800)
	u := b.add(t, 7, 0, b.c.Field().Size())
	for n, blocks := range []int{1, 256, 1, 256, 2, 255, 100, 9} {
		u.create(t, n+1, blocks)
	}
	b.wantStatus(t, u, 0, b.c.Field().Size())
	for at := 0; at < 256; at += 8 {
		b.wantDone(t, u, b.writeOf(2, at, 8))
	}
	b.wantDone(t, u, b.writeOf(1, 0, 1))
	b.wantDone(t, u, b.writeOf(6, 247, 8))
	b.wantDone(t, u, b.writeOf(8, 0, 8))
	b.wantStatus(t, u, 0, b.c.Field().Size())
	wantReply(t, "Resize", b.run(t, resizeOf(2, 200), u.v), reply.Reply{})
	cut := volume{200, map[int]int{}}
	for block := range 200 {
		cut.written[block] = u.working[2].written[block]
	}
	u.working[2] = cut
	b.wantStatus(t, u, 0, b.c.Field().Size())
}

// P30.2: a Status of a tenant that the field has not is of noughts, but its volumes.
func TestStatusOfNobody(t *testing.T) {
	b := peopled(t)
	x := b.l[5]
	x.create(t, 1, 4)
	wantCode(t, "Remove", b.c.Field().Remove(5), api.OK)
	b.wantStatus(t, x, 0, 0)
}

// P30.2: a Status that can't be told is an error alone: of a disk that is down, and where somebody turned any sector.
func TestStatusRefused(t *testing.T) {
	b := peopledOn(t, 200)
	u := b.l[1]
	reserve, quota, _ := b.c.Field().Limits(1)
	down(t, b.d)
	b.wantTold(t, plainOf(req.Status), api.ErrDown)
	up(t, b.d)
	b.wantStatus(t, u, reserve, quota)
	lost := 0
	for s := range uint32(b.d.Size()) {
		turned(t, b.d, s, func() {
			got := b.run(t, plainOf(req.Status), u.v)
			want := u.status(reserve, quota)
			if got.E != api.OK {
				lost++
				want = reply.Reply{E: api.ErrIntegrity}
			}
			wantReply(t, "Status", got, want)
		})
	}
	if lost < 5 {
		t.Errorf("only %d sectors are asked for", lost)
	}
	b.wantStatus(t, u, reserve, quota)
}
