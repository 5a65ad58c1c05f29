package bits

import (
	"math"
	"testing"

	"casemate/api"
)

// To hold a place as often as may be takes 2^31 - 1 calls. These tests lay it nearly there.

// often is a row whose place 1 is held so often, and the place 2 once.
func often(t *testing.T, times int) *Row {
	t.Helper()
	r, _ := New(3)
	r.Hold(1)
	r.Hold(2)
	r.times[1] = times
	if r.Times(1) != times {
		t.Fatalf("Times: %d, want %d", r.Times(1), times)
	}
	return r
}

// P12.1: a place may be held 2^31 - 1 times, and not once more.
func TestMost(t *testing.T) {
	r := often(t, math.MaxInt32-2)
	for i, want := range []api.Errno{api.OK, api.OK, api.ErrFull, api.ErrFull} {
		if e := r.Hold(1); e != want {
			t.Fatalf("Hold number %d: %v, want %v", i, e, want)
		}
	}
	if r.Times(1) != math.MaxInt32 || r.Taken() != 2 {
		t.Errorf("Times and Taken: %d %d", r.Times(1), r.Taken())
	}
	if e := r.Hold(2); e != api.OK {
		t.Errorf("Hold of another place: %v", e)
	}
	if e := r.Hold(3); e != api.ErrArg {
		t.Errorf("Hold of no place: %v", e)
	}
}

// P12.1, P12.2: a place that is held as often as may be is dropped, cloned and compared as others are.
func TestBelowMost(t *testing.T) {
	r := often(t, math.MaxInt32)
	c := r.Clone()
	if free, e := r.Drop(1); free || e != api.OK || r.Times(1) != math.MaxInt32-1 {
		t.Fatalf("Drop: %v, %v, and Times %d", free, e, r.Times(1))
	}
	if Equal(r, c) || c.Hold(1) != api.ErrFull {
		t.Error("the clone is another one")
	}
	if r.Hold(1) != api.OK || r.Hold(1) != api.ErrFull || !Equal(r, c) {
		t.Error("behind a drop it is not held once more, and no more than that")
	}
	if i, ok := r.Free(1); i != 0 || ok {
		t.Errorf("Free: %d, %v", i, ok)
	}
}
