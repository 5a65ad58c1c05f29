package tenant_test

import (
	"slices"
	"testing"

	"casemate/api"
	"casemate/entry"
	"casemate/tenant"
)

// call is a change that is right, if nothing fails.
type call struct {
	name string
	do   func(x *tenant.Tenant, at entry.Block) api.Errno
	then func(p *plain, at entry.Block) // what it does
}

// calls is changes of each kind to what written made.
func calls() []call {
	cleared := func(x *tenant.Tenant, n, block int) api.Errno {
		was, e := x.Clear(n, block)
		if was != (e == api.OK) {
			return -1
		}
		return e
	}
	return []call{
		{"Create", func(x *tenant.Tenant, _ entry.Block) api.Errno { return x.Create(5, 9) }, func(p *plain, _ entry.Block) { p.create(5, 9) }},
		{"Remove", func(x *tenant.Tenant, _ entry.Block) api.Errno { return x.Remove(4) }, func(p *plain, _ entry.Block) { p.remove(4) }},
		{"Remove of a snapshot", func(x *tenant.Tenant, _ entry.Block) api.Errno { return x.Remove(3) }, func(p *plain, _ entry.Block) { p.remove(3) }},
		{"Resize up", func(x *tenant.Tenant, _ entry.Block) api.Errno { return x.Resize(1, 256) }, func(p *plain, _ entry.Block) { p.resize(1, 256) }},
		{"Resize down", func(x *tenant.Tenant, _ entry.Block) api.Errno { return x.Resize(6, 17) }, func(p *plain, _ entry.Block) { p.resize(6, 17) }},
		{"Snapshot up", func(x *tenant.Tenant, _ entry.Block) api.Errno { return x.Snapshot(1, 8) }, func(p *plain, _ entry.Block) { p.snapshot(1, 8) }},
		{"Snapshot down", func(x *tenant.Tenant, _ entry.Block) api.Errno { return x.Snapshot(6, 5) }, func(p *plain, _ entry.Block) { p.snapshot(6, 5) }},
		{"Set of a block that was written", func(x *tenant.Tenant, at entry.Block) api.Errno { return x.Set(1, 4, at) }, func(p *plain, at entry.Block) { p.set(1, 4, at) }},
		{"Set of another one", func(x *tenant.Tenant, at entry.Block) api.Errno { return x.Set(1, 19, at) }, func(p *plain, at entry.Block) { p.set(1, 19, at) }},
		{"Clear", func(x *tenant.Tenant, _ entry.Block) api.Errno { return cleared(x, 4, 16) }, func(p *plain, _ entry.Block) { p.clear(4, 16) }},
	}
}

// ready is what written made, and a block that its caller holds.
func ready(t *testing.T) (*both, entry.Block) {
	t.Helper()
	b := written(t, 300, 120)
	at, e := b.put(t)
	wantCode(t, "Put", e, api.OK)
	return b, at
}

// times is how often each extent is held.
func (g *ground) times() []int {
	var l []int
	for extent := range g.extents {
		l = append(l, g.pool.Field().Times(uint32(extent)))
	}
	return l
}

// wantSame does something that must leave all as it is.
func (b *both) wantSame(t *testing.T, what string, do func()) {
	t.Helper()
	root, used, times, charge := b.x.Root(), b.s.Used(), b.times(), b.pool.Field().Charge(1)
	do()
	if b.x.Root() != root || b.s.Used() != used || !slices.Equal(b.times(), times) || b.pool.Field().Charge(1) != charge {
		t.Fatalf("%s: the root is %v, and was %v; the store keeps %d nodes, and kept %d; held are\n%v, and were\n%v; the charge is %d, and was %d", what, b.x.Root(), root, b.s.Used(), used, b.times(), times, b.pool.Field().Charge(1), charge)
	}
}

// tries does a call: was it done? If not, it must tell that error, and leave all as it is.
func (b *both) tries(t *testing.T, c call, at entry.Block, want api.Errno) bool {
	t.Helper()
	root, used, times := b.x.Root(), b.s.Used(), b.times()
	e := c.do(b.x, at)
	if e == api.OK {
		return true
	}
	wantCode(t, c.name, e, want)
	if b.x.Root() != root || b.s.Used() != used || b.s.Sweep() != 0 || !slices.Equal(b.times(), times) {
		t.Fatalf("%s: the root is %v, and was %v; the store keeps %d nodes, and kept %d; held are\n%v, and were\n%v", c.name, b.x.Root(), root, b.s.Used(), used, b.times(), times)
	}
	return false
}

// wantDone fails if a call did not do all that it must; the block that the caller held is dropped, if it was not set.
func (b *both) wantDone(t *testing.T, c call, at entry.Block) {
	t.Helper()
	c.then(b.p, at)
	if b.p.held()[at.Ref.Sector] == 0 {
		wantCode(t, "Drop", b.pool.Field().Drop(1, at.Ref.Sector), api.OK)
	}
	b.want(t)
	b.free(t)
}

// P24.4: in a store that has no room each change is refused as a whole, with each number of free sectors up to that with which it is done.
func TestFull(t *testing.T) {
	for _, c := range calls() {
		b, at := ready(t)
		l := b.fill(t)
		missing := 0
		for !b.tries(t, c, at, api.ErrFull) {
			b.wantTold(t)
			b.drop(t, l[missing:missing+1])
			missing++
		}
		b.drop(t, l[missing:])
		if missing < 2 || missing > 40 {
			t.Errorf("%s needs %d sectors", c.name, missing)
		}
		b.wantDone(t, c, at)
	}
}

// P24.4: a disk that goes down in the midst of a change: all is as it was, behind a crash, too.
func TestDownInTheMidst(t *testing.T) {
	for _, c := range calls() {
		b, at := ready(t)
		wantCode(t, "Flush", b.d.Flush(), api.OK)
		writes := 0
		for ; ; writes++ {
			wantCode(t, "Fail", b.d.Fail(writes), api.OK)
			done := b.tries(t, c, at, api.ErrDown)
			if done {
				break
			}
			b.up(t)
			b.wantTold(t)
		}
		if writes < 2 {
			t.Errorf("%s needs %d writes", c.name, writes)
		}
		b.wantDone(t, c, at)
	}
}

// P24.4: a disk that is down already.
func TestDownAlready(t *testing.T) {
	b, at := ready(t)
	b.down(t)
	for _, c := range calls() {
		b.wantSame(t, c.name, func() { wantCode(t, c.name, c.do(b.x, at), api.ErrDown) })
	}
	b.up(t)
	b.wantTold(t)
}

// nodes is the sectors of all nodes of both trees.
func (b *both) nodes(t *testing.T) []uint32 {
	t.Helper()
	all := map[uint32]int{}
	b.sectors(t, b.x.Root(), all)
	b.sectors(t, b.kept, all)
	var l []uint32
	for sector := range all {
		l = append(l, sector)
	}
	slices.Sort(l)
	return l
}

// P24.4: whichever node is turned, each change is done as a whole, or refused and told.
func TestTurnedChanges(t *testing.T) {
	done, told := 0, 0
	for _, c := range calls() {
		b, at := ready(t)
		for _, sector := range b.nodes(t) {
			is := false
			b.turned(t, sector, func() { is = b.tries(t, c, at, api.ErrIntegrity) })
			if !is {
				told++
				continue
			}
			done++
			b.wantDone(t, c, at)
			b, at = ready(t)
		}
		b.wantTold(t)
	}
	if done < 100 || told < 25 {
		t.Errorf("%d changes were done, and %d refused", done, told)
	}
}

// P24.4: whichever node is turned, what is told is right, or an error; Free needs all nodes of both trees.
func TestTurnedTold(t *testing.T) {
	b := written(t, 300, 120)
	wrong, told := 0, 0
	is := func(what string, right, zero bool, e api.Errno) {
		t.Helper()
		if e == api.OK && !right || e != api.OK && (e != api.ErrIntegrity || !zero) {
			t.Fatalf("%s: %v, %v, %v", what, right, zero, e)
		}
		if told++; e != api.OK {
			wrong++
		}
	}
	for _, sector := range b.nodes(t) {
		b.turned(t, sector, func() {
			l, e := b.x.Volumes()
			is("Volumes", slices.Equal(l, b.p.list()), len(l) == 0, e)
			c, e := b.x.Changes()
			is("Changes", slices.Equal(c, b.p.changes()), len(c) == 0, e)
			if e != api.OK {
				b.wantSame(t, "Abort", func() { wantCode(t, "Abort", b.x.Abort(), e) })
			}
			for n := range b.p.working.volumes {
				v, e := b.x.Volume(n)
				want := b.p.working.volumes[n]
				is("Volume", v == entry.Volume{Number: want.number, Blocks: want.blocks}, v == entry.Volume{}, e)
				for block := range want.blocks {
					at, written, e := b.x.Block(n, block)
					should, whether := want.written[block]
					is("Block", at == should && written == whether, at == entry.Block{} && !written, e)
				}
			}
			b.wantSame(t, "Free", func() { wantCode(t, "Free", b.x.Free(), api.ErrIntegrity) })
		})
	}
	if wrong < 100 || told < 2*wrong {
		t.Errorf("%d of %d were errors", wrong, told)
	}
	b.want(t)
	b.free(t)
}

// P24.2 to P24.4: what the arguments alone tell is told ahead of a tree that is not as it was; but not what hangs on whether the volume is there, since that can't be known then.
func TestTurnedArguments(t *testing.T) {
	b, at := ready(t)
	x := b.x
	asks := func(n, block int) []api.Errno {
		_, _, e := x.Block(n, block)
		_, f := x.Clear(n, block)
		return []api.Errno{e, f, x.Set(n, block, at)}
	}
	b.wantSame(t, "calls of a root that is turned", func() {
		b.turned(t, x.Root().Ref.Sector, func() {
			_, e := x.Volume(1)
			_, f := x.Volume(9)
			for i, c := range [][]api.Errno{
				{x.Create(0, 0), x.Create(9, 5), x.Remove(0), x.Remove(9), x.Resize(0, 0), x.Resize(9, 5), x.Snapshot(0, 1), x.Snapshot(1, 9), x.Snapshot(1, 0), f},
				{x.Create(5, 0), x.Create(1, 257)},
				{x.Create(5, 1), x.Remove(1), x.Resize(1, 5), x.Resize(1, 0), x.Resize(5, 257), x.Snapshot(1, 5), x.Snapshot(1, 1), e},
				append(asks(0, -1), asks(9, 0)...),
				append(asks(1, -1), asks(5, 256)...),
				append(asks(1, 0), asks(1, 255)...),
			} {
				want := []api.Errno{api.ErrVolume, api.ErrArg, api.ErrIntegrity, api.ErrVolume, api.ErrIntegrity, api.ErrIntegrity}[i]
				for _, e := range c {
					wantCode(t, "a call of a root that is turned", e, want)
				}
			}
		})
	})
}

// P24.2: a snapshot onto a volume that is there, of one whose description is not as it was.
func TestTurnedSnapshot(t *testing.T) {
	b, _ := ready(t)
	found := 0
	for _, sector := range b.nodes(t) {
		b.turned(t, sector, func() {
			_, e := b.x.Volume(4)
			_, f := b.x.Volume(1)
			if e == api.OK || f != api.OK {
				return
			}
			found++
			for to, want := range map[int]api.Errno{0: api.ErrVolume, 1: api.ErrIntegrity, 5: api.ErrIntegrity, 9: api.ErrVolume} {
				b.wantSame(t, "Snapshot", func() { wantCode(t, "Snapshot", b.x.Snapshot(4, to), want) })
			}
			b.wantSame(t, "Snapshot", func() { wantCode(t, "Snapshot", b.x.Snapshot(1, 4), api.ErrIntegrity) })
		})
	}
	if found == 0 {
		t.Error("no node has one of both descriptions alone")
	}
}

// P24.2, P24.3: of a volume that is not there, where that can't be told, nothing is told that would say that it is.
func TestTurnedMissing(t *testing.T) {
	b, at := ready(t)
	found := 0
	for _, sector := range b.nodes(t) {
		b.turned(t, sector, func() {
			for _, n := range []int{5, 8} {
				_, e := b.x.Volume(n)
				if e == api.ErrVolume {
					continue
				}
				found++
				b.wantSame(t, "calls of a volume that is not there", func() {
					_, _, f := b.x.Block(n, 256)
					_, g := b.x.Clear(n, -1)
					for _, e := range []api.Errno{e, f, g, b.x.Set(n, 256, at), b.x.Snapshot(n, 1), b.x.Snapshot(n, n), b.x.Resize(n, 0), b.x.Resize(n, 257)} {
						wantCode(t, "a call of a volume that is not there", e, api.ErrIntegrity)
					}
				})
			}
		})
	}
	if found < 3 {
		t.Errorf("%d nodes lead to none", found)
	}
}
