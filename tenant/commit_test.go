package tenant_test

import (
	"slices"
	"testing"

	"casemate/api"
	"casemate/entry"
	"casemate/mtree"
	"casemate/walk"
)

// written is a tenant of some volumes and blocks, settled, that has changes of each kind.
func written(t *testing.T, nodes, extents int) *both {
	t.Helper()
	b := laid(t, nodes, extents).fresh(t, 1)
	for n := 1; n <= 4; n++ {
		b.create(t, n, 20*n)
		for block := range 9 {
			wantCode(t, "Set", b.set(t, n, block*2*n), api.OK)
		}
	}
	b.snapshot(t, 4, 6)
	b.settle(t)
	b.set(t, 1, 0)
	b.set(t, 1, 1)
	b.clear(t, 4, 8)
	b.clear(t, 6, 16)
	b.resize(t, 2, 13)
	b.remove(t, 3)
	b.create(t, 7, 2)
	b.set(t, 7, 1)
	b.snapshot(t, 1, 3)
	return b
}

// opened is a working tree that is opened by its root.
func opened(t *testing.T, b *both) *mtree.Tree {
	t.Helper()
	x, e := mtree.Open(b.s, b.x.Root().Ref)
	wantCode(t, "mtree.Open", e, api.OK)
	return x
}

// P24.4: differences of each kind, one by one.
func TestChanges(t *testing.T) {
	b := laid(t, 60, 20).fresh(t, 1)
	wantChanges := func(want ...walk.Change) {
		t.Helper()
		if l, e := b.x.Changes(); !slices.Equal(l, want) || e != api.OK {
			t.Fatalf("Changes: %v, %v, want %v", l, e, want)
		}
	}
	wantChanges()
	b.create(t, 2, 7)
	one, _ := entry.WriteVolume(entry.Volume{Number: 1, Blocks: 7})
	wantChanges(walk.Change{HasIs: true, Is: entry.WriteCount(1)}, walk.Change{Key: 2 << 32, HasIs: true, Is: one})
	b.settle(t)
	wantChanges()
	b.set(t, 2, 6)
	at, _, _ := b.x.Block(2, 6)
	wantChanges(walk.Change{Key: 2<<32 + 7, HasIs: true, Is: entry.WriteBlock(at)})
	b.clear(t, 2, 6)
	wantChanges()
	b.set(t, 2, 6)
	b.settle(t)
	then, _, _ := b.x.Block(2, 6)
	b.set(t, 2, 6)
	now, _, _ := b.x.Block(2, 6)
	wantChanges(walk.Change{Key: 2<<32 + 7, HasWas: true, Was: entry.WriteBlock(then), HasIs: true, Is: entry.WriteBlock(now)})
	b.remove(t, 2)
	wantChanges(walk.Change{Key: 2 << 32, HasWas: true, Was: one}, walk.Change{Key: 2<<32 + 7, HasWas: true, Was: entry.WriteBlock(then)})
	b.want(t)
}

// P24.4, P24.6: Settle and Abort, one behind the other, in both orders, and each twice.
func TestSettleAndAbort(t *testing.T) {
	type step func(b *both, t *testing.T)
	settle, abort := step((*both).settle), step((*both).abort)
	for _, steps := range [][]step{{settle}, {abort}, {settle, settle}, {abort, abort}, {settle, abort}, {abort, settle}, {settle, abort, settle}, {abort, settle, abort}} {
		b := written(t, 300, 120)
		b.want(t)
		for _, do := range steps {
			do(b, t)
			b.want(t)
			if l, e := b.x.Changes(); len(l) != 0 || e != api.OK {
				t.Fatalf("Changes: %v, %v", l, e)
			}
		}
		b.set(t, 1, 9)
		b.remove(t, 2)
		b.want(t)
		steps[0](b, t)
		b.want(t)
		b.free(t)
	}
}

// P24.4: of a tenant that has nothing there is nothing to settle, or to abort; and all of a tenant may go.
func TestNothing(t *testing.T) {
	b := laid(t, 60, 20).fresh(t, 1)
	b.settle(t)
	b.abort(t)
	b.want(t)
	b.create(t, 1, 5)
	b.set(t, 1, 4)
	b.abort(t)
	b.want(t)
	if r := b.x.Root(); r != (entry.Root{}) || b.s.Used() != 0 {
		t.Errorf("the root is %v; the store keeps %d nodes", r, b.s.Used())
	}
	b.free(t)
}

// P24.4: what Settle is handed needs no disk, and stays as it is.
func TestSettleDown(t *testing.T) {
	b := written(t, 300, 120)
	l, e := b.x.Changes()
	wantCode(t, "Changes", e, api.OK)
	was := slices.Clone(l)
	b.down(t)
	wantCode(t, "Settle", b.x.Settle(l), api.OK)
	if !slices.Equal(l, was) {
		t.Error("Settle changed its list")
	}
	b.p.settle()
	b.kept = b.x.Root()
	clear(l)
	b.up(t)
	b.want(t)
	b.free(t)
}

// P24.4, P24.5: Settle with a list that is old, or none's: the kept tree is the working one, and what both name is held.
func TestSettleOld(t *testing.T) {
	b := written(t, 300, 120)
	l, e := b.x.Changes()
	wantCode(t, "Changes", e, api.OK)
	b.abort(t)
	wantCode(t, "Settle", b.x.Settle(l), api.OK)
	b.want(t)
	b.set(t, 1, 5)
	b.remove(t, 4)
	wantCode(t, "Settle", b.x.Settle(append(l, walk.Change{Key: 5, HasIs: true}, walk.Change{Key: 1<<32 + 9, HasWas: true}, walk.Change{Key: 9<<32 + 9, HasWas: true, HasIs: true})), api.OK)
	b.p.settle()
	b.kept = b.x.Root()
	b.want(t)
	b.set(t, 1, 6)
	wantCode(t, "Settle", b.x.Settle(nil), api.OK)
	b.p.settle()
	b.kept = b.x.Root()
	b.want(t)
	b.free(t)
}

// P24.4: while the disk is down, Changes, Abort and Free tell it, and all stays as it is.
func TestDown(t *testing.T) {
	b := written(t, 300, 120)
	root := b.x.Root()
	b.down(t)
	l, e := b.x.Changes()
	if len(l) != 0 || e != api.ErrDown {
		t.Errorf("Changes: %v, %v", l, e)
	}
	wantCode(t, "Abort", b.x.Abort(), api.ErrDown)
	wantCode(t, "Free", b.x.Free(), api.ErrDown)
	if b.x.Root() != root || b.x.ID() != 1 {
		t.Errorf("the root is %v, and was %v", b.x.Root(), root)
	}
	b.up(t)
	b.want(t)
	b.free(t)
}

// P24.4: what is told is nobody else's.
func TestApart(t *testing.T) {
	b := written(t, 300, 120)
	l, e := b.x.Changes()
	wantCode(t, "Changes", e, api.OK)
	clear(l)
	v, e := b.x.Volumes()
	wantCode(t, "Volumes", e, api.OK)
	clear(v)
	b.want(t)
	b.settle(t)
	b.want(t)
}

// P24.4: Free of tenants that have only kept, or only working volumes, or both.
func TestFree(t *testing.T) {
	b := laid(t, 60, 20).fresh(t, 1)
	b.free(t)
	b = b.fresh(t, 1)
	b.create(t, 1, 5)
	b.set(t, 1, 4)
	b.free(t)
	b = b.fresh(t, 1)
	b.create(t, 1, 5)
	b.set(t, 1, 4)
	b.settle(t)
	b.remove(t, 1)
	b.free(t)
	written(t, 300, 120).free(t)
	wantDead(t, nil)
}

// P1: roots that somebody else dropped: all calls end, and none panics.
func TestStolen(t *testing.T) {
	for _, settled := range []bool{false, true} {
		b, at := ready(t)
		if settled {
			b.settle(t)
		}
		for range 2 {
			b.s.Drop(b.x.Root().Ref)
			for _, c := range calls() {
				c.do(b.x, at)
			}
			l, _ := b.x.Changes()
			b.x.Settle(l)
			b.x.Abort()
		}
		b.x.Free()
	}
}
