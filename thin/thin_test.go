package thin_test

import (
	"bytes"
	"math"
	"testing"

	"casemate/api"
	"casemate/keys"
	"casemate/pool"
	"casemate/tenant"
	"casemate/thin"
)

// wantNoView fails if there is a view, or another error.
func wantNoView(t *testing.T, x *tenant.Tenant, p *pool.Pool, c *keys.Counter) {
	t.Helper()
	if v, e := thin.New(x, p, api.Key{1}, c); v != nil || e != api.ErrNil {
		t.Fatalf("New: %v, %v", v, e)
	}
}

// P25.1: tenants and pools that are none, and tenants that were freed.
func TestNewWrong(t *testing.T) {
	g := laid(t, 30, 10)
	u := g.fresh(t, 1)
	freed := g.fresh(t, 2)
	wantCode(t, "Free", freed.x.Free(), api.OK)
	for _, c := range []*keys.Counter{nil, {}, u.c} {
		for _, x := range []*tenant.Tenant{nil, {}, new(tenant.Tenant), freed.x} {
			for _, p := range []*pool.Pool{nil, {}, g.pool} {
				wantNoView(t, x, p, c)
			}
		}
		wantNoView(t, u.x, nil, c)
		wantNoView(t, u.x, &pool.Pool{}, c)
	}
	u.want(t)
}

// P25.1: a view tells its tenant, whatever that has, whatever the counter is, and whatever the disks are.
func TestNew(t *testing.T) {
	g := laid(t, 30, 10)
	for id := 1; id <= 2; id++ {
		u := g.fresh(t, id)
		for _, c := range []*keys.Counter{nil, {}, u.c} {
			v, e := thin.New(u.x, g.pool, api.Key{}, c)
			if v == nil || e != api.OK || v.Tenant() != u.x {
				t.Fatalf("New: %v, %v", v, e)
			}
		}
		if u.v.Tenant() != u.x || u.v.Tenant().ID() != id {
			t.Error("Tenant: another one")
		}
		down(t, g.nodes)
		down(t, g.blocks)
		if u.look(t).Tenant() != u.x {
			t.Error("Tenant: another one")
		}
		up(t, g.nodes)
		up(t, g.blocks)
		u.want(t)
	}
}

// wantNil fails if a view does not tell ErrNil of all blocks; Write tells ErrForm ahead of that, if form is true.
func wantNil(t *testing.T, v *thin.View, form bool) {
	t.Helper()
	for _, n := range []int{-1, 0, 1, 8, 9} {
		for _, block := range []int{-1, 0, 3, 255, 256} {
			if b, e := v.Read(n, block); len(b) != 0 || e != api.ErrNil {
				t.Fatalf("Read: %d bytes, %v", len(b), e)
			}
			if was, e := v.Discard(n, block); was || e != api.ErrNil {
				t.Fatalf("Discard: %v, %v", was, e)
			}
			wantCode(t, "Write", v.Write(n, block, text(1)), api.ErrNil)
			want := api.ErrNil
			if form {
				want = api.ErrForm
			}
			for _, b := range [][]byte{nil, {}, text(1)[:511], make([]byte, 513)} {
				wantCode(t, "Write", v.Write(n, block, b), want)
			}
		}
		if used, e := v.Used(n); used != 0 || e != api.ErrNil {
			t.Fatalf("Used: %d, %v", used, e)
		}
	}
}

// P25.1: views that are nil, or that no call made.
func TestNone(t *testing.T) {
	for _, v := range []*thin.View{nil, {}, new(thin.View)} {
		wantNil(t, v, false)
		if v.Tenant() != nil {
			t.Error("Tenant: one")
		}
	}
}

// P25.1 to P25.4: a view whose tenant was freed behind it tells what that tells: ErrNil. No stamp is gone for it.
func TestFreed(t *testing.T) {
	u := laid(t, 30, 10).fresh(t, 1)
	u.create(t, 1, 5)
	u.write(t, 1, 3, api.OK)
	wantCode(t, "Free", u.x.Free(), api.OK)
	wantNil(t, u.v, true)
	if u.v.Tenant() != u.x {
		t.Error("Tenant: another one")
	}
	u.wantHeld(t)
	if stamp, e := u.c.Next(); stamp != 1<<40+2 || e != api.OK {
		t.Errorf("the next stamp is %d, %v", stamp, e)
	}
}

// wrong is numbers that no volume may have.
func wrong() []int {
	return []int{math.MinInt, -1, 0, 9, 10, 1 << 32, 1<<32 + 1, math.MaxInt}
}

// wantRefused fails if a call of a block does not tell that error, and leave all as it is.
func (u *user) wantRefused(t *testing.T, n, block int, want api.Errno) {
	t.Helper()
	if b, e := u.v.Read(n, block); len(b) != 0 || e != want {
		t.Fatalf("Read(%d, %d): %d bytes, %v, want %v", n, block, len(b), e, want)
	}
	if was, e := u.v.Discard(n, block); was || e != want {
		t.Fatalf("Discard(%d, %d): %v, %v, want %v", n, block, was, e, want)
	}
	wantCode(t, "Write", u.v.Write(n, block, text(9)), want)
	wantCode(t, "Write", u.v.Write(n, block, text(9)[:511]), api.ErrForm)
}

// P25.2 to P25.4: volumes that there are not, and of numbers that none may have; blocks below 0, 0, the last one and one more; no stamp is gone for them.
func TestBlocksWrong(t *testing.T) {
	u := laid(t, 60, 20).fresh(t, 1)
	blocks := []int{math.MinInt, -1 << 32, -1, 256, 257, 1 << 32, math.MaxInt}
	for _, n := range append(wrong(), 1, 2, 8) {
		for _, block := range append(blocks, 0, 255) {
			u.wantRefused(t, n, block, api.ErrVolume)
		}
		if used, e := u.v.Used(n); used != 0 || e != api.ErrVolume {
			t.Fatalf("Used(%d): %d, %v", n, used, e)
		}
	}
	for n, size := range map[int]int{1: 1, 2: 5, 7: 255, 8: 256} {
		u.create(t, n, size)
		for _, block := range append(blocks, size, size+1) {
			u.wantRefused(t, n, block, api.ErrBlock)
		}
	}
	u.want(t)
	stamp := uint64(1 << 40)
	for _, n := range []int{1, 2, 7, 8} {
		for _, block := range []int{0, u.p.working[n].blocks - 1} {
			u.wantRead(t, n, block)
			u.write(t, n, block, api.OK)
			stamp++
			if got := u.place(t, n, block).Stamp; got != stamp {
				t.Fatalf("the stamp is %d, want %d", got, stamp)
			}
			u.wantRead(t, n, block)
		}
	}
	u.remove(t, 2)
	u.wantRefused(t, 2, 0, api.ErrVolume)
	u.want(t)
}

// P25.3: blocks of other sizes are ErrForm, ahead of all else; nothing has changed, and no stamp is gone.
func TestWriteForm(t *testing.T) {
	u := laid(t, 60, 20).fresh(t, 1)
	u.create(t, 1, 5)
	u.write(t, 1, 4, api.OK)
	unlucky, e := thin.New(u.x, u.pool, u.master, nil)
	wantCode(t, "New", e, api.OK)
	for _, v := range []*thin.View{u.v, unlucky} {
		for _, size := range []int{511, 513, 0, 1, 256, 1024, api.MaxText} {
			for _, n := range []int{1, 2, 9} {
				for _, block := range []int{4, 0, 5, -1} {
					wantCode(t, "Write", v.Write(n, block, make([]byte, size, size+512)), api.ErrForm)
					wantCode(t, "Write", v.Write(n, block, nil), api.ErrForm)
				}
			}
		}
	}
	down(t, u.nodes)
	wantCode(t, "Write", u.v.Write(1, 4, nil), api.ErrForm)
	up(t, u.nodes)
	u.want(t)
	u.write(t, 1, 0, api.OK)
	u.wantSealed(t, 1, 0, 1, 1<<40+2)
	u.want(t)
}

// P25.2, P25.3, P25.5: a block that was not written is noughts; else it is as it was written last, once and again; other blocks stay as they are.
func TestWrite(t *testing.T) {
	u := laid(t, 60, 20).fresh(t, 1)
	u.create(t, 1, 256)
	u.create(t, 2, 1)
	u.want(t)
	for range 3 {
		for _, block := range []int{0, 255, 7, 7, 8, 254} {
			u.write(t, 1, block, api.OK)
			u.want(t)
		}
		u.write(t, 2, 0, api.OK)
		u.want(t)
	}
	if charge := u.pool.Field().Charge(1); charge != 6 {
		t.Errorf("the charge is %d", charge)
	}
}

// P25.5: blocks of all kinds of bytes, noughts among them, which count as written.
func TestWriteBytes(t *testing.T) {
	u := laid(t, 60, 20).fresh(t, 1)
	u.create(t, 1, 9)
	for i, b := range [][]byte{make([]byte, 512), bytes.Repeat([]byte{255}, 512), bytes.Repeat([]byte{0, 1}, 256), append(make([]byte, 511), 1)} {
		wantCode(t, "Write", u.v.Write(1, i, b), api.OK)
		if got, e := u.v.Read(1, i); !bytes.Equal(got, b) || e != api.OK {
			t.Fatalf("Read: % x, %v", got, e)
		}
		if used, e := u.v.Used(1); used != i+1 || e != api.OK {
			t.Fatalf("Used: %d, %v", used, e)
		}
	}
}

// P25.4, P25.5: what was discarded is noughts, and was written just if it was; what is written behind that is read; the extent is free for others.
func TestDiscard(t *testing.T) {
	u := laid(t, 60, 2).fresh(t, 1)
	u.create(t, 1, 9)
	for _, block := range []int{0, 8, 4} {
		u.discard(t, 1, block)
		u.want(t)
		u.write(t, 1, block, api.OK)
		u.want(t)
		u.discard(t, 1, block)
		u.want(t)
		u.discard(t, 1, block)
		u.want(t)
		u.write(t, 1, block, api.OK)
		u.want(t)
		u.write(t, 1, block, api.OK)
		u.want(t)
		u.discard(t, 1, block)
		u.want(t)
	}
	u.write(t, 1, 3, api.OK)
	u.settle(t)
	u.discard(t, 1, 3)
	u.want(t)
	u.abort(t)
	u.want(t)
	u.discard(t, 1, 3)
	u.settle(t)
	u.want(t)
}

// P25.4: Used of a volume without blocks that were written, with some, and with all.
func TestUsed(t *testing.T) {
	u := laid(t, 400, 300).fresh(t, 1)
	u.create(t, 1, 256)
	u.create(t, 2, 1)
	u.create(t, 3, 9)
	used := func(want ...int) {
		t.Helper()
		for i, n := range want {
			if got, e := u.v.Used(i + 1); got != n || e != api.OK {
				t.Fatalf("Used(%d): %d, %v, want %d", i+1, got, e, n)
			}
		}
	}
	used(0, 0, 0)
	u.write(t, 2, 0, api.OK)
	used(0, 1, 0)
	for block := range 256 {
		u.write(t, 1, block, api.OK)
		if block%51 == 0 {
			used(block+1, 1, 0)
		}
	}
	used(256, 1, 0)
	u.snapshot(t, 1, 4)
	u.write(t, 1, 255, api.OK)
	u.discard(t, 1, 0)
	u.discard(t, 4, 255)
	u.discard(t, 4, 254)
	used(255, 1, 0, 254)
	wantCode(t, "Resize", u.x.Resize(1, 100), api.OK)
	used(99, 1, 0, 254)
}
