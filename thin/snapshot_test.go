package thin_test

import (
	"testing"

	"casemate/api"
	"casemate/tenant"
)

// P25.6: a snapshot, and one of that, are read as their volumes were, whatever is written to any of them, or discarded, also when it is gone; settled and aborted with.
func TestSnapshot(t *testing.T) {
	for _, settled := range []bool{false, true} {
		u := laid(t, 300, 60).fresh(t, 1)
		u.create(t, 3, 12)
		for block := range 6 {
			u.write(t, 3, block, api.OK)
		}
		u.snapshot(t, 3, 1)
		u.want(t)
		if settled {
			u.settle(t)
		}
		change := func() {
			u.write(t, 3, 0, api.OK) // one side
			u.write(t, 1, 1, api.OK) // the other one
			u.write(t, 3, 2, api.OK) // both
			u.write(t, 1, 2, api.OK)
			u.want(t)
			u.discard(t, 3, 3)
			u.discard(t, 1, 4)
			u.write(t, 3, 7, api.OK) // not written ahead of the snapshot
			u.write(t, 1, 8, api.OK)
			u.want(t)
			u.snapshot(t, 1, 8)
			u.write(t, 8, 5, api.OK)
			u.write(t, 1, 5, api.OK)
			u.want(t)
			u.remove(t, 1)
			u.want(t)
			u.snapshot(t, 8, 1)
			u.write(t, 8, 0, api.OK)
			u.want(t)
		}
		change()
		u.abort(t)
		u.want(t)
		if !settled {
			continue
		}
		change()
		u.settle(t)
		u.want(t)
		u.write(t, 1, 0, api.OK)
		u.discard(t, 8, 5)
		u.abort(t)
		u.want(t)
		u.remove(t, 3)
		u.remove(t, 8)
		u.settle(t)
		u.want(t)
	}
}

// P25.5, P2: a tenant that is opened by its root, on another store and another pool of the same sectors, is read as it was; what was not settled as it was then.
func TestOpened(t *testing.T) {
	u := written(t)
	for range 2 {
		root := u.x.Root()
		u.settle(t)
		u.write(t, 1, 0, api.OK)
		u.discard(t, 2, 0)
		u.ground = on(t, u.nodes, u.blocks)
		x, e := tenant.Open(1, u.s, u.pool, root)
		wantCode(t, "Open", e, api.OK)
		u.x, u.c = x, counter(t, 9)
		u.p.working = u.p.kept.clone()
		u.v = u.look(t)
		u.want(t)
		u.write(t, 1, 5, api.OK)
		u.write(t, 4, 0, api.OK)
		u.want(t)
	}
}
