package core_test

import (
	"bytes"
	"testing"

	"casemate/api"
	"casemate/disk"
	"casemate/entry"
)

// isBlank tells whether a sector shows noughts.
func isBlank(t *testing.T, d *disk.Disk, sector int) bool {
	t.Helper()
	b, e := d.Read(uint32(sector))
	wantCode(t, "Read", e, api.OK)
	return bytes.Equal(b, make([]byte, 512))
}

// P27.2: how the sectors are parted between the store and the pool, at sizes around those where the quarter changes, and where it is at its most.
func TestSizes(t *testing.T) {
	for sectors, want := range map[int]int{64: 11, 65: 11, 66: 12, 67: 12, 69: 12, 70: 13, 81: 15, 82: 16, 200: 45, 1000: 245, 8205: 2046, 8206: 2047, 8209: 2047, 8210: 2048, 8211: 2048, 8213: 2048, 8214: 2048, 9000: 2048, 65535: 2048, 65536: 2048} {
		b := fresh(t, sectors)
		if got := b.c.Field().Size(); got != want {
			t.Errorf("of %d sectors %d are the pool's, want %d", sectors, got, want)
		}
		b.add(t, 1, 0, 1, api.OK)
		b.create(t, 1, 1, 1)
		if !isBlank(t, b.d, sectors-want) || isBlank(t, b.d, 18) {
			t.Errorf("of %d sectors the store does not begin at 18", sectors)
		}
		b.write(t, 1, 1, 0, api.OK)
		if isBlank(t, b.d, sectors-want) || !isBlank(t, b.d, sectors-want+1) {
			t.Errorf("of %d sectors the pool does not begin at %d", sectors, sectors-want)
		}
		b.want(t)
	}
}

// fill lets blocks of a tenant's volume take up nodes, so many of them, or till the store has no room: how many there are. All of them are one extent, which is held as often.
func (b *bed) fill(t *testing.T, id, n, blocks int) int {
	t.Helper()
	x, field := b.tenant(t, id), b.c.Field()
	extent, e := field.Take(id)
	wantCode(t, "Take", e, api.OK)
	defer func() { wantCode(t, "Drop", field.Drop(id, extent), api.OK) }()
	for block := range blocks {
		wantCode(t, "Hold", field.Hold(extent), api.OK)
		if e := x.Set(n, block, entry.Block{Ref: api.Ref{Sector: extent}, Stamp: 1}); e != api.OK {
			wantCode(t, "Set", e, api.ErrFull)
			wantCode(t, "Drop", field.Drop(id, extent), api.OK)
			return block
		}
	}
	return blocks
}

// P27.2: the store has all sectors from 18 up to the pool, which has all up to the end, and no other is written but a head's and a slot's.
func TestAllSectors(t *testing.T) {
	for _, sectors := range []int{64, 65, 66, 69, 70, 82} {
		b := fresh(t, sectors)
		size := b.c.Field().Size()
		b.add(t, 1, 0, size, api.OK)
		b.create(t, 1, 1, 200)
		for block := range size {
			b.write(t, 1, 1, block, api.OK)
			if isBlank(t, b.d, sectors-size+block) {
				t.Fatalf("the extent %d is not in its place", block)
			}
		}
		b.write(t, 1, 1, 0, api.ErrQuota)
		b.want(t)
		b.discard(t, 1, 1, size-1)
		if got := b.fill(t, 1, 1, 200); got == 200 {
			t.Fatal("the store has room for all")
		}
		// All nodes but those that a change makes anew are kept: each sector has been used.
		for s := 18; s < sectors; s++ {
			if isBlank(t, b.d, s) {
				t.Errorf("of %d sectors the sector %d was never written", sectors, s)
			}
		}
		for block := range size - 1 { // what fill put in their place is gone, and so are the extents
			if e := b.c.Check(api.Ref{Sector: uint32(block)}); e != api.ErrIntegrity {
				t.Fatalf("Check: %v", e)
			}
		}
		wantSlots(t, b.d, b.l)
		if isBlank(t, b.d, 0) || isBlank(t, b.d, 1) || isBlank(t, b.d, 2) {
			t.Error("a head or a slot is blank")
		}
	}
}
