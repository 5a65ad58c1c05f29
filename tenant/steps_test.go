package tenant_test

import (
	"math/rand/v2"
	"testing"

	"casemate/api"
	"casemate/tenant"
)

// some is two tenants of one ground.
type some struct {
	*ground
	l      []*both
	chance *rand.Rand
	told   map[api.Errno]int
}

// number is a volume's number, now and then one that may not be.
func (o *some) number() int { return o.chance.IntN(10) }

// crash lays all anew, and opens both tenants by what they kept.
func (o *some) crash(t *testing.T) {
	t.Helper()
	o.again(t)
	for i, b := range o.l {
		x, e := tenant.Open(i+1, o.s, o.pool, b.kept)
		wantCode(t, "Open", e, api.OK)
		b.x = x
		b.p.abort()
	}
}

// limit changes what a tenant may have, as far as that goes.
func (o *some) limit() {
	reserve := o.chance.IntN(o.extents)
	o.pool.Field().Resize(1+o.chance.IntN(2), reserve, reserve+o.chance.IntN(o.extents-reserve)+1)
}

// change is one change of a tenant.
func (o *some) change(t *testing.T, b *both) api.Errno {
	t.Helper()
	n, block := o.number(), o.chance.IntN(14)-1
	switch kind := o.chance.IntN(30); {
	case kind < 4:
		return b.create(t, n, o.chance.IntN(14))
	case kind < 6:
		return b.remove(t, n)
	case kind < 9:
		return b.resize(t, n, o.chance.IntN(14))
	case kind < 13:
		return b.snapshot(t, n, o.number())
	case kind < 16:
		return b.clear(t, n, block)
	}
	return b.set(t, n, block)
}

func (o *some) step(t *testing.T) {
	t.Helper()
	b := o.l[o.chance.IntN(2)]
	switch kind := o.chance.IntN(60); {
	case kind < 3:
		b.settle(t)
	case kind < 5:
		b.abort(t)
	case kind < 6:
		o.limit()
	case kind < 7 && o.chance.IntN(3) == 0:
		o.crash(t)
	default:
		o.told[o.change(t, b)]++
	}
}

// P24.1 to P24.6: many steps of two tenants, held against plain ones.
func TestSteps(t *testing.T) {
	told := map[api.Errno]int{}
	for seed := range uint64(6) {
		g := laid(t, 500, 20)
		o := &some{ground: g, l: []*both{g.fresh(t, 1), g.fresh(t, 2)}, chance: rand.New(rand.NewPCG(seed, 24)), told: told}
		for step := range 800 {
			o.step(t)
			g.wantHeld(t, o.l...)
			if step%10 == 0 {
				for _, b := range o.l {
					b.wantTold(t)
					wantRoot(t, b)
				}
			}
		}
		wantCode(t, "Free", o.l[0].x.Free(), api.OK)
		o.l[1].want(t)
		o.l[1].free(t)
	}
	for _, e := range []api.Errno{api.OK, api.ErrArg, api.ErrVolume, api.ErrThere, api.ErrBlock, api.ErrQuota, api.ErrPool} {
		if told[e] < 30 {
			t.Errorf("%v was told %d times", e, told[e])
		}
	}
}
