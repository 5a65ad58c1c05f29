package scrub_test

import (
	"math"
	"testing"

	"casemate/api"
	"casemate/core"
	"casemate/entry"
	"casemate/node"
	"casemate/scrub"
)

// P32.1 to P32.3, P1: a core that is nil, or that no call made; a round that is nil, or that no call made.
func TestNone(t *testing.T) {
	for _, c := range []*core.Core{nil, {}, new(core.Core)} {
		for _, id := range []int{math.MinInt, -1, 0, 1, 8, 9, math.MaxInt} {
			if r, e := scrub.Look(c, id); r != (scrub.Report{}) || e != api.ErrNil {
				t.Errorf("Look(%d): %v, %v", id, r, e)
			}
		}
		if right, e := scrub.Books(c); right || e != api.ErrNil {
			t.Errorf("Books: %v, %v", right, e)
		}
		if r, e := scrub.New(c); r != nil || e != api.ErrNil {
			t.Errorf("New: %v, %v", r, e)
		}
	}
	for _, r := range []*scrub.Round{nil, {}, new(scrub.Round)} {
		for range 2 {
			wantStep(t, r, false, api.ErrNil)
			wantRound(t, r, scrub.Report{})
		}
	}
}

// P32.1: tenants that there are not: of numbers that there can't be, of others, and one that was shredded; of these Look is told again once they are there anew.
func TestLookNobody(t *testing.T) {
	b := peopled(t)
	for _, id := range []int{math.MinInt, -1, 0, 3, 5, 7, 9, 10, 1 << 32, 1<<32 + 1, math.MaxInt} {
		b.wantLook(t, id, scrub.Report{}, api.ErrTenant)
	}
	for _, id := range []int{2, 8, 4} {
		b.shred(t, id)
		b.wantLook(t, id, scrub.Report{}, api.ErrTenant)
		b.wantAll(t)
	}
	b.add(t, 8, 9).create(t, 2, 2)
	b.wantLook(t, 8, scrub.Report{Volumes: 1}, api.OK)
	b.wantAll(t)
}

// P32.1: by hand: a tenant with no volume, with one of which nothing is written, with some and with all; blocks that a snapshot shares count for each volume.
func TestLook(t *testing.T) {
	b := peopled(t)
	b.wantLook(t, 4, scrub.Report{}, api.OK)
	b.wantLook(t, 6, scrub.Report{Volumes: 1}, api.OK)
	b.wantLook(t, 2, scrub.Report{Volumes: 1, Blocks: 3}, api.OK)
	b.wantLook(t, 1, scrub.Report{Volumes: 4, Blocks: 2 + 8 + 9 + 5}, api.OK)
	b.wantLook(t, 8, scrub.Report{Volumes: 8, Blocks: 0 + 2 + 2 + 4 + 4 + 6 + 6 + 8}, api.OK)
	b.wantAll(t)
	u := b.l[1]
	b.abort(t, u)
	b.wantLook(t, 1, scrub.Report{Volumes: 4, Blocks: 2 + 8 + 8 + 5}, api.OK)
	u.remove(t, 3)
	b.wantLook(t, 1, scrub.Report{Volumes: 3, Blocks: 2 + 8 + 5}, api.OK)
	b.wantAll(t)
}

// P32.1: a volume of the most blocks, and one of one block, of which all are written, and each one alone.
func TestLookEdges(t *testing.T) {
	b := fresh(t, 1300)
	u := b.add(t, 3, 300)
	u.create(t, 7, 256)
	u.create(t, 2, 1)
	for block := range 256 {
		b.put(t, u, 7, block)
	}
	b.put(t, u, 2, 0)
	b.wantLook(t, 3, scrub.Report{Volumes: 2, Blocks: 257}, api.OK)
	for _, block := range []int{0, 255, 128} {
		turned(t, b.d, b.sectorOf(t, u, 7, block), func() { b.wantLook(t, 3, scrub.Report{Volumes: 2, Blocks: 257, Bad: 1}, api.OK) })
	}
	turned(t, b.d, b.sectorOf(t, u, 2, 0), func() { b.wantLook(t, 3, scrub.Report{Volumes: 2, Blocks: 257, Bad: 1}, api.OK) })
	for block := range 255 {
		u.discard(t, 7, block)
	}
	b.wantLook(t, 3, scrub.Report{Volumes: 2, Blocks: 2}, api.OK)
	u.resize(t, 7, 255)
	b.wantLook(t, 3, scrub.Report{Volumes: 2, Blocks: 1}, api.OK)
}

// sectorOf is the sector of a block that was written.
func (b *bed) sectorOf(t *testing.T, u *user, n, block int) uint32 {
	t.Helper()
	at, written, e := u.tenant().Block(n, block)
	if !written || e != api.OK {
		t.Fatalf("Block(%d, %d): %v, %v", n, block, written, e)
	}
	return uint32(b.d.Size()-b.c.Field().Size()) + at.Ref.Sector
}

// nodes is the sectors of the nodes of a tenant's tree.
func (b *bed) nodes(t *testing.T, u *user) map[uint32]bool {
	t.Helper()
	all := map[uint32]bool{}
	root := u.tenant().Root()
	for row := []api.Ref{root.Ref}; root.Has && len(row) > 0; row = row[1:] {
		shown, e := b.d.Read(row[0].Sector)
		wantCode(t, "Read", e, api.OK)
		n, e := node.Read(shown)
		wantCode(t, "node.Read", e, api.OK)
		all[row[0].Sector] = true
		row = append(row, n.Kids...)
	}
	return all
}

// blocks is how many of a tenant's blocks stand in each sector.
func (b *bed) blocks(t *testing.T, u *user) map[uint32]int {
	t.Helper()
	all := map[uint32]int{}
	for n, v := range u.working {
		for block := range v.written {
			all[b.sectorOf(t, u, n, block)]++
		}
	}
	return all
}

// P32.1, P32.5: each sector turned, one by one: as many blocks are Bad as stand there, of each volume; where it is a node's of the tenant it is ErrIntegrity alone; all others change nothing. Turned back nothing is Bad.
func TestTurned(t *testing.T) {
	t.Parallel()
	b := peopled(t)
	nodes, blocks := map[int]map[uint32]bool{}, map[int]map[uint32]int{}
	for id, u := range b.l {
		nodes[id], blocks[id] = b.nodes(t, u), b.blocks(t, u)
	}
	bad, lost := 0, 0
	for s := range uint32(b.d.Size()) {
		turned(t, b.d, s, func() {
			var all scrub.Report
			broken := false
			for _, id := range b.ids() {
				want := b.l[id].working.report()
				want.Bad = blocks[id][s]
				if nodes[id][s] {
					lost++
					broken = true
					b.wantLook(t, id, scrub.Report{}, api.ErrIntegrity)
					continue
				}
				bad += want.Bad
				b.wantLook(t, id, want, api.OK)
				all = together(all, want)
			}
			b.wantBooks(t)
			if !broken {
				r := b.round(t)
				for range all.Volumes {
					wantStep(t, r, false, api.OK)
				}
				wantStep(t, r, true, api.OK)
				wantRound(t, r, all)
			}
		})
	}
	if bad < 50 || lost < 10 {
		t.Errorf("%d were bad, %d lost", bad, lost)
	}
	b.wantAll(t)
}

// P32.1: several sectors turned, noughts and other blocks in their place: all that are not as they were put are Bad, and no others.
func TestManyTurned(t *testing.T) {
	b := peopled(t)
	u := b.l[1]
	one, other := b.sectorOf(t, u, 8, 0), b.sectorOf(t, u, 8, 30)
	shared := b.sectorOf(t, u, 3, 7)
	was, e := b.d.Read(other)
	wantCode(t, "Read", e, api.OK)
	want := u.working.report()
	replaced(t, b.d, one, was, func() {
		want.Bad = 1
		b.wantLook(t, 1, want, api.OK)
		replaced(t, b.d, shared, make([]byte, 512), func() {
			want.Bad = 3
			b.wantLook(t, 1, want, api.OK)
			replaced(t, b.d, b.sectorOf(t, b.l[2], 5, 1), was, func() {
				b.wantLook(t, 1, want, api.OK)
				b.wantLook(t, 2, scrub.Report{Volumes: 1, Blocks: 3, Bad: 1}, api.OK)
			})
		})
		// A bad block that is written anew, or is not there any more, is none.
		b.put(t, u, 8, 0)
		want.Bad = 0
		b.wantLook(t, 1, want, api.OK)
	})
	replaced(t, b.d, shared, was, func() {
		u.discard(t, 3, 7)
		want = u.working.report()
		want.Bad = 1
		b.wantLook(t, 1, want, api.OK)
		u.remove(t, 4)
		b.wantLook(t, 1, u.working.report(), api.OK)
	})
	b.wantAll(t)
	for s := uint32(b.d.Size() - b.c.Field().Size()); s < uint32(b.d.Size()); s++ {
		wantCode(t, "Tamper", b.d.Tamper(s, text(5)), api.OK)
	}
	for id, u := range b.l {
		want := u.working.report()
		want.Bad = want.Blocks
		b.wantLook(t, id, want, api.OK)
	}
	b.wantBooks(t)
}

// P32.1: a disk that is down: the error of Volumes alone. A tenant that has no tree asks for no disk.
func TestLookDown(t *testing.T) {
	b := peopled(t)
	down(t, b.d)
	for _, id := range []int{1, 2, 6, 8} {
		b.wantLook(t, id, scrub.Report{}, api.ErrDown)
	}
	b.wantLook(t, 4, scrub.Report{}, api.OK)
	b.wantLook(t, 5, scrub.Report{}, api.ErrTenant)
	b.wantBooks(t)
	up(t, b.d)
	b.wantAll(t)
}

// P32.1: another error of Check than ErrIntegrity, of a block whose extent there is not, is told alone, also where another block is bad ahead of it; and so is that of a tenant that was freed from without.
func TestLookOtherErrors(t *testing.T) {
	b := peopled(t)
	u := b.l[8]
	for _, extent := range []int{b.c.Field().Size(), math.MaxUint32} {
		wantCode(t, "Set", u.tenant().Set(6, 3, entry.Block{Ref: api.Ref{Sector: uint32(extent)}}), api.OK)
		turned(t, b.d, b.sectorOf(t, u, 2, 0), func() { b.wantLook(t, 8, scrub.Report{}, api.ErrArg) })
		b.wantLook(t, 8, scrub.Report{}, api.ErrArg)
	}
	b.wantLook(t, 1, b.l[1].working.report(), api.OK)
	wantCode(t, "Free", b.l[1].tenant().Free(), api.OK)
	b.wantLook(t, 1, scrub.Report{}, api.ErrNil)
}
