package core_test

import (
	"testing"

	"casemate/api"
	"casemate/core"
)

// op is a call that changes a core that is peopled, and what it makes of what there should be.
type op struct {
	name  string
	do    func(c *core.Core, l users) api.Errno
	after func(l users)
}

func addOp(id, reserve, quota int) op {
	u := &user{outer: keyOf(500), master: keyOf(501), salt: keyOf(502), reserve: reserve, quota: quota, kept: state{}, working: state{}}
	return op{"Add", func(c *core.Core, _ users) api.Errno {
		return c.Add(id, u.outer, u.master, u.salt, reserve, quota)
	}, func(l users) { l[id] = u.clone() }}
}

func commitOp(id int) op {
	return op{"Commit", func(c *core.Core, _ users) api.Errno { return c.Commit(id) }, func(l users) { l[id].kept = l[id].working.clone() }}
}

func rotateOp(id int) op {
	return op{"Rotate", func(c *core.Core, l users) api.Errno {
		return c.Rotate(id, l[id].outer, keyOf(600), keyOf(601))
	}, func(l users) { l[id].outer, l[id].salt, l[id].place = keyOf(600), keyOf(601), 1-l[id].place }}
}

func limitOp(id, reserve, quota int) op {
	return op{"Limit", func(c *core.Core, _ users) api.Errno { return c.Limit(id, reserve, quota) }, func(l users) { l[id].reserve, l[id].quota = reserve, quota }}
}

func shredOp(id int) op {
	return op{"Shred", func(c *core.Core, _ users) api.Errno { return c.Shred(id) }, func(l users) { delete(l, id) }}
}

// ops is calls that commit, of tenants that are peopled.
func ops() []op {
	return []op{addOp(3, 2, 9), addOp(6, 0, 0), commitOp(1), commitOp(2), commitOp(5), commitOp(8), rotateOp(1), rotateOp(2), limitOp(8, 0, 28), limitOp(5, 1, 2), shredOp(1), shredOp(2), shredOp(5)}
}

// done is told that a call has done what it should.
func (b *bed) done(o op) {
	o.after(b.l)
	b.gen++
	clear(b.views)
}

// crowded is a core that is peopled, with a tenant whose volume can take up nearly all nodes, and one whose volume can take up the last ones.
func crowded(t *testing.T) *bed {
	t.Helper()
	b := peopledOn(t, 130)
	for _, id := range []int{4, 7} {
		b.add(t, id, 1, 1, api.OK)
		b.create(t, id, 1, 256)
		b.commit(t, id)
	}
	return b
}

// P27.4: in a store that has no room all is refused, with each number of blocks that take up nodes, down to that with which it is done. What is refused changes nothing, so a tenant is admitted no more, limits are as they were, and the slot that was written is gone.
func TestFull(t *testing.T) {
	t.Parallel()
	for _, o := range ops() {
		b := crowded(t)
		blocks, last := b.fill(t, 7, 1, 256), b.fill(t, 4, 1, 256)
		if blocks == 256 || last == 256 {
			t.Fatal("the store has room for all")
		}
		refused := 0
		for refused < 50 {
			before := b.account(t)
			e := o.do(b.c, b.l)
			if e == api.OK {
				break
			}
			wantCode(t, o.name, e, api.ErrFull)
			b.wantAccount(t, before)
			refused++
			b.abort(t, 7)
			b.abort(t, 4)
			blocks--
			b.fill(t, 7, 1, blocks)
			b.fill(t, 4, 1, last)
		}
		if refused < 1 || refused > 40 {
			t.Errorf("%s was refused %d times", o.name, refused)
		}
		b.done(o)
		b.abort(t, 7)
		b.abort(t, 4)
		b.wantAll(t)
	}
}

// P27.4: Abort needs no node, so it is done in a store that has no room.
func TestFullAbort(t *testing.T) {
	b := crowded(t)
	for _, id := range []int{1, 2, 8, 5} {
		b.fill(t, 7, 1, 256)
		b.fill(t, 4, 1, 256)
		b.abort(t, id)
		b.abort(t, 7)
		b.abort(t, 4)
		b.want(t)
	}
	b.wantAll(t)
}

// P27.4, P27.5: a disk that goes down at any of the writes of each call, and a crash that keeps all of what waited, nothing, and some: mounted anew, each tenant is as it was committed last, or as by the call, just if the register was set. What is not lost in the core that is left is as it was, too.
func TestDownInTheMidst(t *testing.T) {
	t.Parallel()
	for i, o := range ops() {
		calls := 0
		for ; ; calls++ {
			b := peopled(t)
			wantCode(t, "Fail", b.d.Fail(calls), api.OK)
			e := o.do(b.c, b.l)
			if e == api.OK {
				b.done(o)
				b.want(t)
				break
			}
			wantCode(t, o.name, e, api.ErrDown)
			for j, keep := range [][]byte{keeps()[0], keeps()[1], keeps()[2+(calls+i)%5]} {
				if j > 0 {
					b = peopled(t)
					wantCode(t, "Fail", b.d.Fail(calls), api.OK)
					wantCode(t, o.name, o.do(b.c, b.l), api.ErrDown)
				}
				wantCode(t, "Crash", b.d.Crash(keep), api.OK)
				if register(t, b.d).Gen != b.gen {
					b.done(o)
				}
				if j == 1 { // nothing was lost
					b.want(t)
				}
				*b = *mount(t, b.d, b.l, b.writes)
				b.want(t)
				wantSlots(t, b.d, b.l)
			}
		}
		if calls < 4 {
			t.Errorf("%s takes %d calls", o.name, calls)
		}
	}
}

// P27.4: on a disk that is down all that asks it tells that, and nothing has changed.
func TestDown(t *testing.T) {
	b := peopled(t)
	before := b.account(t)
	down(t, b.d)
	for _, o := range ops() {
		wantCode(t, o.name, o.do(b.c, b.l), api.ErrDown)
	}
	for id, u := range b.l {
		v, e := b.c.Open(id, u.outer)
		wantCode(t, "Open", e, api.ErrDown)
		if v != nil {
			t.Fatal("there is a view")
		}
		_, e = b.c.Open(id, keyOf(60000))
		wantCode(t, "Open", e, api.ErrDown)
		wantCode(t, "Rotate", b.c.Rotate(id, keyOf(60000), keyOf(1), [32]byte{}), api.ErrDown)
	}
	wantCode(t, "Abort", b.c.Abort(1), api.ErrDown)
	for _, id := range b.c.Tenants() {
		b.tenant(t, id)
	}
	up(t, b.d)
	b.wantAccount(t, before)
	b.want(t)
}

// P27.4: Add that is refused lets the tenant be admitted no more, also by a disk that is down at any of its writes, so that it can be added behind that; the same of limits.
func TestRefusedAgain(t *testing.T) {
	b := peopled(t)
	wantCode(t, "Flush", b.d.Flush(), api.OK)
	b.commit(t, 1)
	slack := b.c.Field().Slack()
	for calls := range 6 {
		wantCode(t, "Fail", b.d.Fail(calls), api.OK)
		wantCode(t, "Add", b.c.Add(4, keyOf(1), keyOf(2), [32]byte{}, slack, slack), api.ErrDown)
		if _, _, there := b.c.Field().Limits(4); there || b.c.Field().Slack() != slack {
			t.Fatal("it is admitted")
		}
		wantCode(t, "Crash", b.d.Crash(keeps()[1]), api.OK)
		b.want(t)
		wantCode(t, "Fail", b.d.Fail(min(calls, 4)), api.OK)
		wantCode(t, "Limit", b.c.Limit(1, 20, 20), api.ErrDown)
		wantCode(t, "Crash", b.d.Crash(keeps()[1]), api.OK)
		b.want(t)
	}
	b.add(t, 4, slack, slack, api.OK)
	b.wantAll(t)
}
