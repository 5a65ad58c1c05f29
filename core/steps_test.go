package core_test

import (
	"math/rand/v2"
	"testing"

	"casemate/api"
	"casemate/core"
)

// random is a core to which many things are done by chance.
type random struct {
	*bed
	chance *rand.Rand
	all    map[uint32][]byte // to which the register leads
	told   map[api.Errno]int
}

// room is the error of a tenant that wants an extent more.
func (o *random) room(id int) api.Errno {
	field := o.c.Field()
	reserve, quota, _ := field.Limits(id)
	switch charge := field.Charge(id); {
	case charge == quota:
		return api.ErrQuota
	case charge >= reserve && field.Slack() == 0:
		return api.ErrPool
	}
	return api.OK
}

// change changes a tenant's volumes.
func (o *random) change(t *testing.T, id int) {
	t.Helper()
	u := o.l[id]
	n, block := 1+o.chance.IntN(3), o.chance.IntN(6)
	_, there := u.working[n]
	switch kind := o.chance.IntN(12); {
	case !there:
		o.create(t, id, n, 1+o.chance.IntN(6))
	case kind < 7:
		e := u.working.has(n, block)
		if e == api.OK {
			e = o.room(id)
		}
		o.told[e]++
		o.write(t, id, n, block, e)
	case kind < 9 && block < u.working[n].blocks:
		o.discard(t, id, n, block)
	case kind < 10:
		o.remove(t, id, n)
	default:
		to := 1 + o.chance.IntN(8)
		if _, there := u.working[to]; !there {
			o.snapshot(t, id, n, to)
		}
	}
}

// some is a call of a tenant that there is, which commits, with limits that may be; it is not done as yet.
func (o *random) some(id int) op {
	switch o.chance.IntN(8) {
	case 0:
		if o.chance.IntN(2) == 0 {
			return shredOp(id)
		}
		return limitOp(id, 0, o.c.Field().Size())
	case 1:
		fresh, salt := keyOf(1000+o.chance.IntN(5000)), keyOf(1000+o.chance.IntN(5000))
		return op{"Rotate", func(c *core.Core, l users) api.Errno {
			return c.Rotate(id, l[id].outer, fresh, salt)
		}, func(l users) { l[id].outer, l[id].salt, l[id].place = fresh, salt, 1-l[id].place }}
	case 2:
		reserve := min(o.chance.IntN(4), o.c.Field().Slack())
		return limitOp(id, reserve, max(reserve, o.l[id].charge()+o.chance.IntN(4)))
	}
	return commitOp(id)
}

// crash cuts a call off at some of its writes, and mounts the disk anew.
func (o *random) crash(t *testing.T, x op) {
	t.Helper()
	wantCode(t, "Fail", o.d.Fail(o.chance.IntN(9)), api.OK)
	e := x.do(o.c, o.l)
	o.told[e]++
	keep := make([]byte, 40)
	for i := range keep {
		keep[i] = byte(o.chance.Uint32() | o.chance.Uint32()<<o.chance.IntN(9))
	}
	wantCode(t, "Crash", o.d.Crash(keep), api.OK)
	if register(t, o.d).Gen != o.gen {
		o.done(x)
	} else if e != api.ErrDown {
		t.Fatalf("%s tells %v, and is not committed", x.name, e)
	}
	o.again(t, nil)
	o.want(t)
	wantSlots(t, o.d, o.l)
}

func (o *random) step(t *testing.T) {
	t.Helper()
	id := 1 + o.chance.IntN(4)
	kind := o.chance.IntN(60)
	switch {
	case o.l[id] == nil && kind < 20:
		reserve := min(o.chance.IntN(4), o.c.Field().Slack())
		o.add(t, id, reserve, reserve+o.chance.IntN(9), api.OK)
	case o.l[id] == nil:
		slack, size, want := o.c.Field().Slack(), o.c.Field().Size(), api.ErrPool
		if slack == size {
			want = api.ErrArg
		}
		o.add(t, id, slack+1, size, want)
		o.told[want]++
	case kind < 10:
		x := o.some(id)
		e := x.do(o.c, o.l)
		o.told[e]++
		if e == api.OK {
			o.done(x)
		}
	case kind < 12:
		o.abort(t, id)
	case kind < 14:
		o.crash(t, o.some(id))
	case kind < 15:
		o.again(t, keeps()[o.chance.IntN(7)])
	default:
		o.change(t, id)
	}
}

// P27.4 to P27.7, P5, P7, P8: many steps of some tenants, with crashes behind any write of any call, held against plain volumes; at each of them a crash would lose nothing that was committed. Stamps rise across crashes and mounts.
func TestSteps(t *testing.T) {
	t.Parallel()
	told := map[api.Errno]int{}
	for seed := range uint64(8) {
		o := &random{bed: fresh(t, 130), chance: rand.New(rand.NewPCG(seed, 27)), told: told}
		o.all = led(t, o.d)
		for step := range 400 {
			gen := o.gen
			o.step(t)
			if gen != o.gen {
				o.all = led(t, o.d)
			}
			wantLed(t, o.d, o.all)
			switch step % 40 {
			case 0, 10, 20, 30:
				o.want(t)
			case 35:
				o.wantLasts(t)
			}
		}
	}
	for _, e := range []api.Errno{api.OK, api.ErrDown, api.ErrQuota, api.ErrPool} {
		if told[e] < 10 {
			t.Errorf("%v was told %d times", e, told[e])
		}
	}
}
