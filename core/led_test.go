package core_test

import (
	"bytes"
	"testing"

	"casemate/api"
	"casemate/disk"
	"casemate/entry"
	"casemate/node"
	"casemate/slot"
	"casemate/super"
)

// led is the sectors to which a disk's register leads, and what is sure there: the head, the slots, the nodes of all trees, and the blocks.
func led(t *testing.T, d *disk.Disk) map[uint32][]byte {
	t.Helper()
	all := map[uint32][]byte{}
	add := func(s uint32) []byte {
		b, e := d.Sure(s)
		wantCode(t, "Sure", e, api.OK)
		all[s] = b
		return b
	}
	h, e := super.Read(add(uint32(register(t, d).Which)))
	wantCode(t, "super.Read", e, api.OK)
	pairs := func(r entry.Root) map[uint64][44]byte {
		found := map[uint64][44]byte{}
		row := []api.Ref{r.Ref}
		for ; r.Has && len(row) > 0; row = row[1:] {
			n, e := node.Read(add(row[0].Sector))
			wantCode(t, "node.Read", e, api.OK)
			row = append(row, n.Kids...)
			for i, v := range n.Vals {
				found[n.Keys[i]] = v
			}
		}
		return found
	}
	extents := min((d.Size()-18)/4, 2048)
	for key, v := range pairs(entry.Root{Has: h.Has, Ref: h.Root}) {
		if key%2 == 1 {
			x, e := entry.ReadTenant(v)
			wantCode(t, "ReadTenant", e, api.OK)
			s, e := slot.Place(int(key/2), x.Copy)
			wantCode(t, "Place", e, api.OK)
			add(s)
			continue
		}
		r, e := entry.ReadRoot(v)
		wantCode(t, "ReadRoot", e, api.OK)
		for key, v := range pairs(r) {
			if key<<32 > 0 { // a block
				add(uint32(d.Size()-extents) + entry.ReadBlock(v).Ref.Sector)
			}
		}
	}
	return all
}

// wantLed fails if a sector to which the register leads shows, or is, another thing than it was.
func wantLed(t *testing.T, d *disk.Disk, all map[uint32][]byte) {
	t.Helper()
	for s, want := range all {
		sure, e := d.Sure(s)
		wantCode(t, "Sure", e, api.OK)
		shown, e := d.Read(s)
		wantCode(t, "Read", e, api.OK)
		if !bytes.Equal(sure, want) || !bytes.Equal(shown, want) {
			t.Fatalf("the sector %d, to which the register leads, was written over", s)
		}
	}
}

// P27.5: nothing to which the register leads is written over till the next one is set: neither by calls that are cut off at any of their writes, nor by what is done between two commits.
func TestNothingWrittenOver(t *testing.T) {
	for _, o := range ops() {
		for calls := range 50 {
			b := peopled(t)
			all := led(t, b.d)
			if len(all) < 30 {
				t.Fatalf("the register leads to %d sectors", len(all))
			}
			wantCode(t, "Fail", b.d.Fail(calls), api.OK)
			e := o.do(b.c, b.l)
			wantCode(t, "Crash", b.d.Crash(keeps()[1]), api.OK)
			if register(t, b.d).Gen == b.gen {
				wantLed(t, b.d, all)
			}
			if e == api.OK {
				break
			}
		}
	}
	b := peopled(t)
	all := led(t, b.d)
	for range 30 {
		b.unsaved8(t)
		wantLed(t, b.d, all)
		b.write(t, 1, 1, 1, api.OK)
		b.write(t, 2, 3, 2, api.OK)
		wantLed(t, b.d, all)
		b.abort(t, 1)
		wantLed(t, b.d, all)
	}
	b.wantAll(t)
}
