package core_test

import (
	"bytes"
	"testing"

	"casemate/api"
	"casemate/core"
	"casemate/disk"
	"casemate/hashlog"
	"casemate/sha"
	"casemate/super"
)

// noisy is a disk none of whose sectors shows noughts, nor is its register blank.
func noisy(t *testing.T, sectors int) *disk.Disk {
	t.Helper()
	d := blankDisk(t, sectors)
	for s := range uint32(sectors) {
		wantCode(t, "Write", d.Write(s, bytes.Repeat([]byte{1 + byte(s%255)}, 512)), api.OK)
	}
	wantCode(t, "Flush", d.Flush(), api.OK)
	wantCode(t, "SetReg", d.SetReg([64]byte{7, 63: 7}), api.OK)
	return d
}

// P27.1, P27.2: disks that are none, and disks that are too small, up or down: they are not changed.
func TestTooSmall(t *testing.T) {
	var none disk.Disk
	for _, d := range []*disk.Disk{nil, {}, new(disk.Disk), &none} {
		wantCode(t, "Format", core.Format(d), api.ErrNil)
		for _, log := range []*hashlog.Log{nil, {}, hashlog.New()} {
			c, e := core.Mount(d, log)
			wantCode(t, "Mount", e, api.ErrNil)
			if c != nil {
				t.Fatal("there is a core")
			}
		}
	}
	for _, sectors := range []int{1, 2, 17, 18, 19, 62, 63} {
		d := noisy(t, sectors)
		for _, prepare := range []func(){func() {}, func() { down(t, d) }} {
			prepare()
			calls := d.Calls()
			wantCode(t, "Format", core.Format(d), api.ErrArg)
			c, e := core.Mount(d, hashlog.New())
			wantCode(t, "Mount", e, api.ErrArg)
			if c != nil || d.Calls() != calls {
				t.Fatal("the disk was changed")
			}
		}
	}
}

// wantFormatted fails if a disk, which was noisy, is not one that was formatted.
func wantFormatted(t *testing.T, d *disk.Disk) {
	t.Helper()
	head, e := super.Write(super.Head{Gen: 1})
	wantCode(t, "super.Write", e, api.OK)
	for s := range uint32(d.Size()) {
		want := make([]byte, 512)
		switch {
		case s == 0:
			want = head
		case s >= 18:
			want = bytes.Repeat([]byte{1 + byte(s%255)}, 512)
		}
		if got, e := d.Sure(s); e != api.OK || !bytes.Equal(got, want) {
			t.Fatalf("the sector %d begins with % x, %v", s, got[:9], e)
		}
	}
	if r := register(t, d); r != (super.Register{Sum: sha.Sum(head), Gen: 1}) {
		t.Fatalf("the register: %v", r)
	}
	if d.Waits() != 0 {
		t.Fatalf("%d writes wait", d.Waits())
	}
}

// P27.1: what Format writes, on disks on which something stood.
func TestFormat(t *testing.T) {
	for _, sectors := range []int{64, 65, 100, 3000} {
		d := noisy(t, sectors)
		calls := d.Calls()
		wantCode(t, "Format", core.Format(d), api.OK)
		wantFormatted(t, d)
		if got := d.Calls() - calls; got != 20 {
			t.Errorf("Format takes %d calls, want 18 writes, Flush and SetReg", got)
		}
		wantAnew(t, d, users{}, 0)
	}
}

// P27.1: a disk that goes down at any of Format's calls: the register is set at last, or not at all.
func TestFormatDown(t *testing.T) {
	for calls := range 20 {
		for _, keep := range keeps() {
			d := noisy(t, 64)
			wantCode(t, "Fail", d.Fail(calls), api.OK)
			wantCode(t, "Format", core.Format(d), api.ErrDown)
			wantCode(t, "Format", core.Format(d), api.ErrDown)
			wantCode(t, "Crash", d.Crash(keep), api.OK)
			if r, e := d.Reg(); e != api.OK || r != [64]byte{7, 63: 7} {
				t.Fatalf("the register: % x, %v", r, e)
			}
			_, e := core.Mount(d, nil)
			wantCode(t, "Mount", e, api.ErrIntegrity)
			wantCode(t, "Format", core.Format(d), api.OK)
			wantFormatted(t, d)
		}
	}
	d := noisy(t, 64)
	wantCode(t, "Fail", d.Fail(20), api.OK)
	wantCode(t, "Format", core.Format(d), api.OK)
	wantFormatted(t, d)
}

// P27.1: a disk that is formatted again has no tenants, and nothing of their slots, whichever head it had.
func TestFormatAgain(t *testing.T) {
	b := peopled(t)
	for range 2 {
		wantCode(t, "Format", core.Format(b.d), api.OK)
		wantSlots(t, b.d, users{})
		*b = *mount(t, b.d, users{}, b.writes)
		b.wantAll(t)
		if b.epoch != 1 || b.gen != 1 {
			t.Fatalf("Epoch %d, Gen %d", b.epoch, b.gen)
		}
		b.add(t, 2, 1, 9, api.OK)
		b.create(t, 2, 1, 5)
		b.write(t, 2, 1, 0, api.OK)
		b.commit(t, 2)
		b.rotate(t, 2)
		b.wantAll(t)
	}
}
