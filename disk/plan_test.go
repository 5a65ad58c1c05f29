package disk_test

import (
	"bytes"
	"math"
	"testing"

	"casemate/api"
	"casemate/disk"
)

// changes is the calls that change something, by their names.
func changes(d *disk.Disk) map[string]func() api.Errno {
	return map[string]func() api.Errno{
		"Write":  func() api.Errno { return d.Write(1, block(1)) },
		"Flush":  d.Flush,
		"SetReg": func() api.Errno { return d.SetReg(register(1)) },
	}
}

// wantAllDown fails if a call tells anything else than that the disk is down, whatever it is handed.
func wantAllDown(t *testing.T, d *disk.Disk) {
	t.Helper()
	wantDown(t, d, true)
	for _, s := range append(noSectors(d.Size()), 0) {
		if b, e := d.Read(s); len(b) != 0 || e != api.ErrDown {
			t.Fatalf("Read(%d): %d bytes, %v", s, len(b), e)
		}
		for _, b := range append(wrongLengths(), noughts()) {
			wantCode(t, "Write", d.Write(s, b), api.ErrDown)
		}
	}
	wantCode(t, "Flush", d.Flush(), api.ErrDown)
	wantCode(t, "SetReg", d.SetReg(register(77)), api.ErrDown)
	if r, e := d.Reg(); r != [64]byte{} || e != api.ErrDown {
		t.Fatalf("Reg: %x, %v", r, e)
	}
	wantDown(t, d, true)
}

// P11.2: so many calls change something, of each kind, then all calls tell ErrDown till a crash.
func TestPlan(t *testing.T) {
	for _, last := range []string{"Write", "Flush", "SetReg"} {
		for calls := range 5 {
			d := made(t, 3)
			write(t, d, 0, 9)
			wantCode(t, "Fail", d.Fail(calls), api.OK)
			for i := range calls {
				wantCode(t, "a call ahead", changes(d)[[]string{"Write", "SetReg"}[i%2]](), api.OK)
			}
			wantDown(t, d, false)
			wantRead(t, d, 0, block(9))
			waits := 1 + (calls+1)/2
			wantCounts(t, d, waits, 1+calls)
			wantCode(t, last, changes(d)[last](), api.ErrDown)
			wantAllDown(t, d)
			wantCounts(t, d, waits, 1+calls)
			wantSure(t, d, 0, noughts())
			wantCode(t, "Crash", d.Crash([]byte{1}), api.OK)
			wantDown(t, d, false)
			wantRead(t, d, 0, block(9))
			wantRead(t, d, 1, noughts())
			if calls > 1 {
				wantReg(t, d, register(1))
			} else {
				wantReg(t, d, [64]byte{})
			}
			for range 20 { // there is no plan any more
				write(t, d, 2, 3)
				wantCode(t, "SetReg", d.SetReg(register(2)), api.OK)
				wantCode(t, "Flush", d.Flush(), api.OK)
			}
			wantCounts(t, d, 0, 1+calls+60)
		}
	}
}

// P11.2: plans below 0 are none, and the one that is stays.
func TestPlanBelowNought(t *testing.T) {
	for _, calls := range []int{-1, -2, math.MinInt32, math.MinInt} {
		d := made(t, 2)
		wantCode(t, "Fail", d.Fail(calls), api.ErrArg)
		write(t, d, 0, 1, 2, 3)
		wantCode(t, "Fail", d.Fail(1), api.OK)
		wantCode(t, "Fail", d.Fail(calls), api.ErrArg)
		write(t, d, 0, 4)
		wantCode(t, "Fail", d.Fail(calls), api.ErrArg)
		wantCode(t, "Flush", d.Flush(), api.ErrDown)
		wantCode(t, "Fail", d.Fail(calls), api.ErrArg)
		wantAllDown(t, d)
	}
}

// P11.2: a plan takes the place of the one ahead of it, and may be as long as a number is.
func TestPlanAnew(t *testing.T) {
	d := made(t, 2)
	wantCode(t, "Fail", d.Fail(0), api.OK)
	wantCode(t, "Fail", d.Fail(2), api.OK)
	write(t, d, 0, 1)
	wantCode(t, "Fail", d.Fail(math.MaxInt), api.OK)
	write(t, d, 0, 2, 3, 4)
	wantCode(t, "Fail", d.Fail(1), api.OK)
	write(t, d, 0, 5)
	wantCode(t, "Write", d.Write(0, block(6)), api.ErrDown)
	wantAllDown(t, d)
	wantCounts(t, d, 5, 5)
}

// P11.2: a crash ends a plan of a disk that is not down.
func TestCrashEndsPlan(t *testing.T) {
	d := made(t, 2)
	wantCode(t, "Fail", d.Fail(1), api.OK)
	wantCode(t, "Crash", d.Crash(nil), api.OK)
	write(t, d, 0, 1, 2, 3)
	wantDown(t, d, false)
}

// P11.1: the plan is asked last: a call that is told another error does not count, and the disk is not down.
func TestPlanIsAskedLast(t *testing.T) {
	d := made(t, 2)
	wantCode(t, "Fail", d.Fail(1), api.OK)
	for range 2 {
		for range 3 {
			wantCode(t, "Write", d.Write(2, block(1)), api.ErrSector)
			wantCode(t, "Write", d.Write(2, nil), api.ErrSector)
			for _, b := range wrongLengths() {
				wantCode(t, "Write", d.Write(1, b), api.ErrForm)
			}
			wantDown(t, d, false)
		}
		if d.Calls() == 0 {
			write(t, d, 0, 1)
		}
	}
	wantCounts(t, d, 1, 1)
	wantCode(t, "Write", d.Write(0, block(2)), api.ErrDown)
	wantCode(t, "Write", d.Write(2, nil), api.ErrDown)
}

// P11.1: calls that change nothing do not count, and are not refused where no more may change.
func TestPlanOfReads(t *testing.T) {
	d := made(t, 2)
	wantCode(t, "Fail", d.Fail(0), api.OK)
	for range 5 {
		wantRead(t, d, 0, noughts())
		wantSure(t, d, 0, noughts())
		wantReg(t, d, [64]byte{})
		wantCounts(t, d, 0, 0)
		wantCode(t, "Tamper", d.Tamper(1, block(2)), api.OK)
		wantDown(t, d, false)
	}
	wantCode(t, "Flush", d.Flush(), api.ErrDown)
	wantAllDown(t, d)
}

// P11.5: a disk that is down stays as it is, whatever is asked or planned.
func TestDownStays(t *testing.T) {
	d := made(t, 3)
	write(t, d, 0, 1)
	wantCode(t, "SetReg", d.SetReg(register(4)), api.OK)
	wantCode(t, "Flush", d.Flush(), api.OK)
	write(t, d, 0, 2)
	write(t, d, 2, 3)
	wantCode(t, "Fail", d.Fail(0), api.OK)
	wantCode(t, "SetReg", d.SetReg(register(5)), api.ErrDown)
	for _, calls := range []int{0, 1, 100, math.MaxInt} {
		wantCode(t, "Fail", d.Fail(calls), api.OK)
		wantAllDown(t, d)
		wantCounts(t, d, 2, 5)
		wantSure(t, d, 0, block(1))
		wantSure(t, d, 1, noughts())
		wantSure(t, d, 2, noughts())
		if d.Size() != 3 {
			t.Fatalf("Size: %d", d.Size())
		}
	}
	wantCode(t, "Crash", d.Crash([]byte{2}), api.OK)
	wantReg(t, d, register(4))
	wantRead(t, d, 0, block(1))
	wantRead(t, d, 2, block(3))
	wantCounts(t, d, 0, 5)
}

// P11.2: a disk that is down is turned, and tells what is sure, as another one.
func TestTamperOfDown(t *testing.T) {
	d := made(t, 3)
	write(t, d, 0, 1)
	write(t, d, 1, 2)
	wantCode(t, "Fail", d.Fail(0), api.OK)
	wantCode(t, "Flush", d.Flush(), api.ErrDown)
	wantCode(t, "Tamper", d.Tamper(3, nil), api.ErrSector)
	wantCode(t, "Tamper", d.Tamper(2, nil), api.ErrForm)
	if b, e := d.Sure(3); len(b) != 0 || e != api.ErrSector {
		t.Fatalf("Sure: %d bytes, %v", len(b), e)
	}
	wantCode(t, "Tamper", d.Tamper(0, block(3)), api.OK)
	wantSure(t, d, 0, block(3))
	wantCounts(t, d, 1, 2)
	wantAllDown(t, d)
	wantCode(t, "Crash", d.Crash([]byte{1}), api.OK)
	wantRead(t, d, 0, block(3))
	wantRead(t, d, 1, block(2))
}

// P11.1, P11.2: of nil, or a disk that no call made.
func TestNoDisk(t *testing.T) {
	for _, d := range []*disk.Disk{nil, {}, new(disk.Disk)} {
		for range 2 {
			for _, s := range append(noSectors(1), 0) {
				if b, e := d.Read(s); len(b) != 0 || e != api.ErrNil {
					t.Errorf("Read(%d): %d bytes, %v", s, len(b), e)
				}
				if b, e := d.Sure(s); len(b) != 0 || e != api.ErrNil {
					t.Errorf("Sure(%d): %d bytes, %v", s, len(b), e)
				}
				for _, b := range append(wrongLengths(), noughts()) {
					wantCode(t, "Write", d.Write(s, b), api.ErrNil)
					wantCode(t, "Tamper", d.Tamper(s, b), api.ErrNil)
				}
			}
			if r, e := d.Reg(); r != [64]byte{} || e != api.ErrNil {
				t.Errorf("Reg: %x, %v", r, e)
			}
			wantCode(t, "SetReg", d.SetReg(register(1)), api.ErrNil)
			wantCode(t, "Flush", d.Flush(), api.ErrNil)
			for _, calls := range []int{-1, 0, 1, math.MaxInt, math.MinInt} {
				wantCode(t, "Fail", d.Fail(calls), api.ErrNil)
			}
			for _, keep := range [][]byte{nil, {255}, bytes.Repeat([]byte{255}, 100)} {
				wantCode(t, "Crash", d.Crash(keep), api.ErrNil)
			}
			wantCounts(t, d, 0, 0)
			wantDown(t, d, false)
			if d.Size() != 0 {
				t.Errorf("Size: %d", d.Size())
			}
		}
	}
}
