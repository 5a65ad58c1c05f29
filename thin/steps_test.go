package thin_test

import (
	"math/rand/v2"
	"testing"

	"casemate/api"
	"casemate/seal"
	"casemate/tenant"
)

// some is two users of one ground.
type some struct {
	*ground
	l      []*user
	chance *rand.Rand
	told   map[api.Errno]int
}

// room is the error of a tenant that wants an extent more.
func (u *user) room() api.Errno {
	field := u.pool.Field()
	reserve, quota, _ := field.Limits(u.id)
	switch charge := field.Charge(u.id); {
	case charge == quota:
		return api.ErrQuota
	case charge >= reserve && field.Slack() == 0:
		return api.ErrPool
	}
	return api.OK
}

// change is a write, a discard, a snapshot or another change of a user.
func (o *some) change(t *testing.T, u *user) {
	t.Helper()
	n, block := o.chance.IntN(4), o.chance.IntN(9)-1
	_, there := u.p.working[n]
	switch kind := o.chance.IntN(20); {
	case kind < 11:
		e := u.p.working.has(n, block)
		if e == api.OK {
			e = u.room()
		}
		u.write(t, n, block, e)
		o.told[e]++
	case kind < 14:
		u.discard(t, n, block)
	case kind < 16 && !there && n > 0:
		u.create(t, n, 1+o.chance.IntN(8))
	case kind < 17 && there:
		u.remove(t, n)
	case kind < 19 && there:
		to := 1 + o.chance.IntN(8)
		if _, there := u.p.working[to]; !there {
			u.snapshot(t, n, to)
		}
	}
}

// crash lays all anew, and opens both tenants by what they kept, with counters of a later epoch.
func (o *some) crash(t *testing.T, epoch uint64) {
	t.Helper()
	for _, u := range o.l {
		u.settle(t)
	}
	*o.ground = *on(t, o.nodes, o.blocks)
	for _, u := range o.l {
		x, e := tenant.Open(u.id, o.s, o.pool, u.x.Root())
		wantCode(t, "Open", e, api.OK)
		u.x, u.c = x, counter(t, epoch)
		u.v = u.look(t)
	}
}

func (o *some) step(t *testing.T, epoch uint64) {
	t.Helper()
	u := o.l[o.chance.IntN(2)]
	switch kind := o.chance.IntN(60); {
	case kind < 3:
		u.settle(t)
	case kind < 5:
		u.abort(t)
	case kind < 10:
		reserve := o.chance.IntN(12)
		o.pool.Field().Resize(u.id, reserve, reserve+o.chance.IntN(13-reserve))
	case kind < 11 && o.chance.IntN(4) == 0:
		o.crash(t, epoch)
	default:
		o.change(t, u)
	}
}

// onceEach adds the stamps of what a user wrote: no two unlike blocks may have one.
func (u *user) onceEach(t *testing.T, stamps map[uint64]int) {
	t.Helper()
	for n, v := range u.p.working {
		for block, write := range v.written {
			at := u.place(t, n, block)
			if was, again := stamps[at.Stamp]; again && was != write {
				t.Fatalf("two blocks have the stamp %d", at.Stamp)
			}
			stamps[at.Stamp] = write
			x, e := u.x.Volume(n)
			wantCode(t, "Volume", e, api.OK)
			b, e := u.pool.Get(at.Ref)
			wantCode(t, "Get", e, api.OK)
			if plain, e := seal.Open(u.master, x.Number, at.Stamp, b); e != api.OK || string(plain) != string(text(write)) {
				t.Fatalf("what stands at %v is not what was written", at)
			}
		}
	}
}

// P25.2 to P25.7, P8: many steps of two tenants, held against plain volumes.
func TestSteps(t *testing.T) {
	told := map[api.Errno]int{}
	for seed := range uint64(12) {
		g := laid(t, 400, 12)
		o := &some{ground: g, l: []*user{g.fresh(t, 1), g.fresh(t, 2)}, chance: rand.New(rand.NewPCG(seed, 25)), told: told}
		stamps := []map[uint64]int{{}, {}}
		for step := range 500 {
			o.step(t, uint64(step+3))
			g.wantHeld(t, o.l...)
			if step%10 > 0 {
				continue
			}
			for i, u := range o.l {
				u.wantTold(t)
				u.onceEach(t, stamps[i])
			}
		}
	}
	for _, e := range []api.Errno{api.OK, api.ErrVolume, api.ErrBlock, api.ErrQuota, api.ErrPool} {
		if told[e] < 30 {
			t.Errorf("%v was told %d times", e, told[e])
		}
	}
}
