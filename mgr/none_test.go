package mgr_test

import (
	"math"
	"testing"

	"casemate/api"
	"casemate/core"
	"casemate/disk"
	"casemate/hashlog"
	"casemate/mgr"
	"casemate/req"
	"casemate/slot"
	"casemate/super"
)

// wantDead fails if a manager does not tell an error in each call but Crash.
func wantDead(t *testing.T, m *mgr.Manager, want api.Errno) {
	t.Helper()
	for _, l := range [][]byte{nil, {82}, {82, 10, 0, 3}, encoded(t, openOf(1, 1)), encoded(t, plainOf(1, req.Close)), encoded(t, addOf(9, 0, 0)), encoded(t, shredOf(3))} {
		if ticket, e := m.Submit(l); ticket != 0 || e != want {
			t.Fatalf("Submit: %d, %v, want %v", ticket, e, want)
		}
	}
	for _, id := range []int{math.MinInt, -1, 0, 1, 2, 5, 8, 9, math.MaxInt} {
		ticket, r, ended, e := m.Pick(id)
		if ticket != 0 || ended || e != want || r.E != 0 || r.Number != 0 || len(r.Data) > 0 {
			t.Fatalf("Pick(%d): %d, %v, %v, %v, want %v", id, ticket, r, ended, e, want)
		}
		if n := m.Waits(id); n != 0 {
			t.Fatalf("Waits(%d): %d", id, n)
		}
	}
	ticket, r, ended, e := m.Next()
	if ticket != 0 || ended || e != want || r.E != 0 || r.Number != 0 || len(r.Data) > 0 {
		t.Fatalf("Next: %d, %v, %v, %v, want %v", ticket, r, ended, e, want)
	}
	if c, l := m.Core(), m.Sessions(); c != nil || len(l) > 0 {
		t.Fatalf("Core %v, Sessions %v", c, l)
	}
}

// P31.1, P1: a manager that is nil, or that no call made, with each call.
func TestNone(t *testing.T) {
	for _, m := range []*mgr.Manager{nil, {}, new(mgr.Manager)} {
		for range 2 {
			wantDead(t, m, api.ErrNil)
			for _, keep := range [][]byte{nil, {}, {255, 255}} {
				wantCode(t, "Crash", m.Crash(keep), api.ErrNil)
			}
		}
	}
}

// wantNoManager fails if there is a manager of a disk, or the disk was changed.
func wantNoManager(t *testing.T, d *disk.Disk, want api.Errno) {
	t.Helper()
	calls := d.Calls()
	for _, log := range []*hashlog.Log{nil, {}, hashlog.New()} {
		if m, e := mgr.New(d, log); m != nil || e != want {
			t.Fatalf("New: %v, %v, want %v", m, e, want)
		}
	}
	if d.Calls() != calls {
		t.Fatal("the disk was changed")
	}
}

// P31.1: New of disks that can't be mounted.
func TestNewWrong(t *testing.T) {
	wantNoManager(t, nil, api.ErrNil)
	wantNoManager(t, &disk.Disk{}, api.ErrNil)
	for _, sectors := range []int{1, 63} {
		small, _ := disk.New(sectors)
		wantNoManager(t, small, api.ErrArg)
	}
	for _, sectors := range []int{64, 1000} {
		bare, _ := disk.New(sectors)
		wantNoManager(t, bare, api.ErrState)
	}
	d := formatted(t, 64)
	wantCode(t, "Fail", d.Fail(0), api.OK)
	wantCode(t, "Flush", d.Flush(), api.ErrDown)
	wantNoManager(t, d, api.ErrDown)
	wantCode(t, "Crash", d.Crash(nil), api.OK)
	wantCode(t, "Fail", d.Fail(0), api.OK)
	if m, e := mgr.New(d, hashlog.New()); m != nil || e != api.ErrDown {
		t.Fatalf("New of a disk that goes down: %v, %v", m, e)
	}
	wantCode(t, "Crash", d.Crash(nil), api.OK)
	wantCode(t, "Tamper", d.Tamper(0, text(1)), api.OK)
	wantNoManager(t, d, api.ErrIntegrity)
	reg, e := d.Reg()
	wantCode(t, "Reg", e, api.OK)
	reg[0] ^= 1
	wantCode(t, "SetReg", d.SetReg(reg), api.OK)
	wantNoManager(t, d, api.ErrIntegrity)
}

// rootOf is the sector of the root of all trees.
func rootOf(t *testing.T, d *disk.Disk) uint32 {
	t.Helper()
	shown, e := d.Reg()
	wantCode(t, "Reg", e, api.OK)
	r, e := super.ReadReg(shown)
	wantCode(t, "ReadReg", e, api.OK)
	b, e := d.Read(uint32(r.Which))
	wantCode(t, "Read", e, api.OK)
	h, e := super.Read(b)
	if e != api.OK || !h.Has {
		t.Fatalf("the head: %v, %v", h, e)
	}
	return h.Root.Sector
}

// P31.1: New of a disk with tenants, of which a node was turned, and turned back.
func TestNewTurned(t *testing.T) {
	b := peopled(t)
	wantCode(t, "Flush", b.d.Flush(), api.OK)
	root := rootOf(t, b.d)
	was, e := b.d.Read(root)
	wantCode(t, "Read", e, api.OK)
	wantCode(t, "Tamper", b.d.Tamper(root, text(7)), api.OK)
	wantNoManager(t, b.d, api.ErrIntegrity)
	wantCode(t, "Tamper", b.d.Tamper(root, was), api.OK)
	m, e := mgr.New(b.d, hashlog.New())
	wantCode(t, "New", e, api.OK)
	if l := m.Core().Tenants(); len(l) != 3 {
		t.Errorf("the tenants: %v", l)
	}
}

// P31.1: New mounts the disk, once: its core is told, always the same one; there is nothing in its lanes, and there are no sessions.
func TestNew(t *testing.T) {
	for _, log := range []*hashlog.Log{nil, {}, hashlog.New()} {
		d := formatted(t, 64)
		calls := d.Calls()
		m, e := mgr.New(d, log)
		wantCode(t, "New", e, api.OK)
		c := m.Core()
		if c == nil || c.Epoch() != 1 || c != m.Core() || d.Calls() != calls+1 {
			t.Fatalf("the core: %v, of the epoch %d; %d calls", c, c.Epoch(), d.Calls()-calls)
		}
		for id := range 10 {
			if m.Waits(id) != 0 {
				t.Errorf("there is something in the lane %d", id)
			}
		}
		if _, _, _, e := m.Next(); e != api.ErrNone || len(m.Sessions()) > 0 {
			t.Errorf("Next: %v, Sessions: %v", e, m.Sessions())
		}
	}
}

// P31.1, P31.4: all that the core sums is summed by the log that was handed in, behind a crash, too.
func TestLog(t *testing.T) {
	d, log := formatted(t, 100), hashlog.New()
	m, e := mgr.New(d, log)
	wantCode(t, "New", e, api.OK)
	if head := mustRead(t, d, 0); !log.Has(head) {
		t.Error("the head was not summed by the log")
	}
	if _, e := m.Submit(encoded(t, addOf(2, 1, 2))); e != api.OK {
		t.Fatalf("Submit: %v", e)
	}
	m.Pick(2)
	place, e := slot.Place(2, 0)
	wantCode(t, "Place", e, api.OK)
	for _, s := range []uint32{1, place, rootOf(t, d)} {
		if !log.Has(mustRead(t, d, s)) {
			t.Errorf("the sector %d was not summed by the log", s)
		}
	}
	// A head that stands there since the disk was formatted anew was summed by nobody ahead of the crash.
	wantCode(t, "Crash", m.Crash(nil), api.OK)
	other := formatted(t, 100)
	fresh, e := core.Mount(other, hashlog.New())
	wantCode(t, "Mount", e, api.OK)
	wantCode(t, "Add", fresh.Add(4, keyOf(4), keyOf(5), keyOf(6), 0, 1), api.OK)
	for s := range uint32(100) {
		wantCode(t, "Tamper", d.Tamper(s, mustRead(t, other, s)), api.OK)
	}
	reg, e := other.Reg()
	wantCode(t, "Reg", e, api.OK)
	wantCode(t, "SetReg", d.SetReg(reg), api.OK)
	if log.Has(mustRead(t, d, 1)) {
		t.Fatal("the head was summed ahead of the crash")
	}
	wantCode(t, "Crash", m.Crash(nil), api.OK)
	if !log.Has(mustRead(t, d, 1)) {
		t.Error("the head was not summed by the log behind a crash")
	}
}

func mustRead(t *testing.T, d *disk.Disk, s uint32) []byte {
	t.Helper()
	b, e := d.Read(s)
	wantCode(t, "Read", e, api.OK)
	return b
}

// P31.1: what is done to a manager's core from without is what the manager has, too.
func TestCore(t *testing.T) {
	b := fresh(t, 100)
	for _, c := range []*core.Core{b.m.Core(), b.p.c} {
		wantCode(t, "Add", c.Add(3, keyOf(3), keyOf(4), keyOf(5), 1, 2), api.OK)
	}
	if s := b.open(t, 3); s != 1 {
		t.Errorf("the session %d", s)
	}
	for _, c := range []*core.Core{b.m.Core(), b.p.c} {
		wantCode(t, "Shred", c.Shred(3), api.OK)
	}
	if got := b.ask(t, 3, createOf(1, 1, 1)); got.E != api.ErrTenant {
		t.Errorf("Create of a tenant that is gone: %v", got.E)
	}
}
