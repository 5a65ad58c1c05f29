package thin_test

import (
	"bytes"
	"testing"

	"casemate/api"
	"casemate/keys"
	"casemate/thin"
)

// P25.3: what stands in the pool is the block, sealed for the volume's Number with the counter's next stamp; that Number is the one which the volume got when it was made, and its snapshots have it, too.
func TestSealed(t *testing.T) {
	u := laid(t, 90, 30).fresh(t, 1)
	u.create(t, 5, 9)
	u.create(t, 2, 9)
	next := uint64(1 << 40)
	sealed := func(n, block int, number uint64) {
		t.Helper()
		u.write(t, n, block, api.OK)
		next++
		u.wantSealed(t, n, block, number, next)
		u.want(t)
	}
	sealed(5, 0, 1)
	sealed(2, 0, 2)
	sealed(5, 8, 1)
	u.snapshot(t, 5, 1)
	sealed(1, 8, 1)
	sealed(5, 8, 1)
	u.remove(t, 5)
	u.create(t, 5, 3)
	sealed(5, 0, 3)
	sealed(1, 0, 1)
	u.settle(t)
	sealed(1, 0, 1)
}

// P25.3, P8: each write that gets so far takes a stamp of its own, also one that is refused behind that.
func TestStamps(t *testing.T) {
	u := laid(t, 60, 3).fresh(t, 1)
	u.create(t, 1, 9)
	u.write(t, 1, 0, api.OK)
	wantCode(t, "Resize", u.pool.Field().Resize(1, 0, 1), api.OK)
	u.write(t, 1, 1, api.ErrQuota)
	wantCode(t, "Resize", u.pool.Field().Resize(1, 0, 3), api.OK)
	l := u.fill(t)
	u.write(t, 1, 1, api.ErrFull)
	u.drop(t, l)
	wantCode(t, "Flush", u.blocks.Flush(), api.OK)
	wantCode(t, "Fail", u.blocks.Fail(0), api.OK)
	u.write(t, 1, 1, api.ErrDown)
	up(t, u.blocks)
	u.write(t, 1, 1, api.OK)
	u.wantSealed(t, 1, 1, 1, 1<<40+5)
	u.write(t, 1, 9, api.ErrBlock)
	u.write(t, 2, 0, api.ErrVolume)
	u.write(t, 1, 2, api.OK)
	u.wantSealed(t, 1, 2, 1, 1<<40+6)
	u.want(t)
}

// P25.2, P25.3: views of one counter, of others of that tenant, and of another tenant: each reads what any with its master key wrote, and all stamps of a counter are unlike.
func TestViews(t *testing.T) {
	g := laid(t, 90, 30)
	u, w := g.fresh(t, 1), g.fresh(t, 2)
	for _, x := range []*user{u, w} {
		x.create(t, 1, 9)
		x.write(t, 1, 0, api.OK)
	}
	again := u.look(t)
	wantCode(t, "Write", again.Write(1, 1, text(90)), api.OK)
	u.p.working[1].written[1] = 90
	u.wantSealed(t, 1, 1, 1, 1<<40+2)
	u.write(t, 1, 2, api.OK)
	u.wantSealed(t, 1, 2, 1, 1<<40+3)
	later, e := thin.New(u.x, u.pool, u.master, counter(t, 1<<24-1))
	wantCode(t, "New", e, api.OK)
	wantCode(t, "Write", later.Write(1, 3, text(91)), api.OK)
	u.p.working[1].written[3] = 91
	u.wantSealed(t, 1, 3, 1, (1<<24-1)<<40+1)
	for _, v := range []*thin.View{u.v, again, later} {
		u.v = v
		u.wantTold(t)
	}
	w.wantTold(t)
	g.wantHeld(t, u, w)
}

// P25.2: with another master key a block is read as something else.
func TestOtherMaster(t *testing.T) {
	u := laid(t, 60, 20).fresh(t, 1)
	u.create(t, 1, 9)
	u.write(t, 1, 0, api.OK)
	v, e := thin.New(u.x, u.pool, api.Key{1, 31: 8}, u.c)
	wantCode(t, "New", e, api.OK)
	if b, e := v.Read(1, 0); len(b) != 512 || bytes.Equal(b, text(1)) || e != api.OK {
		t.Errorf("Read: %d bytes, %v", len(b), e)
	}
	if b, e := v.Read(1, 1); !bytes.Equal(b, text(0)) || e != api.OK {
		t.Errorf("Read: %d bytes, %v", len(b), e)
	}
	u.want(t)
}

// P25.3: of a counter that is none no block can be written, but read and discarded; its error comes behind Block's, and ahead of the pool's.
func TestNoCounter(t *testing.T) {
	u := laid(t, 60, 20).fresh(t, 1)
	u.create(t, 1, 5)
	u.write(t, 1, 0, api.OK)
	u.write(t, 1, 1, api.OK)
	was := u.v
	wantCode(t, "Resize", u.pool.Field().Resize(1, 0, 2), api.OK)
	for _, c := range []*keys.Counter{nil, {}} {
		v, e := thin.New(u.x, u.pool, u.master, c)
		wantCode(t, "New", e, api.OK)
		u.v = v
		u.write(t, 1, 0, api.ErrNil)
		u.write(t, 1, 5, api.ErrBlock)
		u.write(t, 2, 0, api.ErrVolume)
		u.want(t)
	}
	down(t, u.blocks)
	u.write(t, 1, 0, api.ErrNil)
	up(t, u.blocks)
	down(t, u.nodes)
	u.write(t, 1, 0, api.ErrDown)
	up(t, u.nodes)
	u.discard(t, 1, 0)
	u.want(t)
	u.v = was
	u.write(t, 1, 0, api.OK)
	u.want(t)
}

// P25.3: a counter's last stamps: the last one is written with, and behind it there is none.
func TestLastStamps(t *testing.T) {
	u := laid(t, 60, 20).fresh(t, 1)
	u.create(t, 1, 5)
	u.write(t, 1, 0, api.OK)
	setTold(u.c, 1<<40-3)
	u.write(t, 1, 1, api.OK)
	u.write(t, 1, 2, api.OK)
	u.wantSealed(t, 1, 1, 1, 1<<41-2)
	u.wantSealed(t, 1, 2, 1, 1<<41-1)
	for range 2 {
		u.write(t, 1, 0, api.ErrFull)
		u.write(t, 1, 3, api.ErrFull)
		u.write(t, 1, 5, api.ErrBlock)
		u.want(t)
	}
	wantCode(t, "Resize", u.pool.Field().Resize(1, 0, 3), api.OK)
	u.write(t, 1, 3, api.ErrFull)
	u.discard(t, 1, 0)
	u.want(t)
}
