package audit_test

import (
	"math"
	"slices"
	"testing"

	"casemate/api"
	"casemate/audit"
	"casemate/req"
)

// noTenants is numbers that no tenant may have.
func noTenants() []int {
	return []int{math.MinInt, -8, -1, 0, api.MaxTenants + 1, 255, 256, 257, 1 << 32, 1<<32 + 1, math.MaxInt}
}

// P34.1: a book of each number that a tenant may have, and of none else.
func TestNew(t *testing.T) {
	for id := 1; id <= api.MaxTenants; id++ {
		b := made(t, id)
		if b.Charge() != 0 || b.Heard() != 0 {
			t.Errorf("a new book of %d: %d, %d", id, b.Charge(), b.Heard())
		}
		x := (&tale{id: id}).and(t, shredOf(id), fail(api.ErrTenant)).and(t, addOf(id, 1), ok())
		x.wantCharge(t, 0)
	}
	for _, id := range noTenants() {
		if b, e := audit.New(id); b != nil || e != api.ErrTenant {
			t.Errorf("New(%d): %v, %v", id, b, e)
		}
	}
}

// P34.1, P1: each call of no book, and of one that no call made.
func TestNone(t *testing.T) {
	for _, b := range []*audit.Book{nil, {}} {
		for _, e := range []audit.Entry{{}, entryOf(t, addOf(1, 1), ok()), {Request: []byte{82}, Reply: []byte{0}}} {
			verdict, code := b.Hear(e)
			if verdict != 0 || code != api.ErrNil {
				t.Errorf("Hear: %d, %v", verdict, code)
			}
		}
		wantCode(t, "Crash", b.Crash(), api.ErrNil)
		if b.Charge() != 0 || b.Heard() != 0 {
			t.Errorf("Charge and Heard: %d, %d", b.Charge(), b.Heard())
		}
	}
}

// wantJudged fails if another place, or another verdict, is told.
func wantJudged(t *testing.T, id int, l []audit.Entry, place, verdict int) {
	t.Helper()
	if p, v := audit.Judge(id, l); p != place || v != verdict {
		t.Fatalf("Judge: %d, %d, want %d, %d", p, v, place, verdict)
	}
}

// P34.2: of no such number; of no entries; of entries that all fit.
func TestJudge(t *testing.T) {
	x := peopled(t)
	for _, id := range noTenants() {
		wantJudged(t, id, nil, 0, audit.Malformed)
		wantJudged(t, id, x.l, 0, audit.Malformed)
	}
	for id := 1; id <= api.MaxTenants; id++ {
		wantJudged(t, id, nil, 0, audit.Fits)
		wantJudged(t, id, []audit.Entry{}, 0, audit.Fits)
		wantJudged(t, id, []audit.Entry{entryOf(t, shredOf(id), fail(api.ErrTenant))}, 1, audit.Fits)
	}
	wantJudged(t, 2, x.l, len(x.l), audit.Fits)
	wantJudged(t, 3, x.l, 0, audit.Malformed)
}

// P34.2, P34.5: one that does not fit at each place, whatever stands behind it; what stands ahead of it fits.
func TestJudgeMisfit(t *testing.T) {
	x := peopled(t)
	for place := range len(x.l) + 1 {
		wantJudged(t, 2, x.l[:place], place, audit.Fits)
		for _, wrong := range []struct {
			e       audit.Entry
			verdict int
		}{
			{audit.Entry{}, audit.Malformed},
			{entryOf(t, shredOf(1), ok()), audit.Malformed},
			{entryOf(t, shredOf(2), fail(api.ErrDown)), audit.Otherwise},
			{entryOf(t, plainOf(9, req.Close), ok()), audit.Otherwise},
		} {
			for _, behind := range [][]audit.Entry{nil, {wrong.e}, {{}}, x.l[place:]} {
				wantJudged(t, 2, slices.Concat(x.l[:place], []audit.Entry{wrong.e}, behind), place, wrong.verdict)
			}
		}
	}
}

// P34.1: behind an entry that did not fit all but Charge and Heard tell ErrState, and nothing changes.
func TestMisfit(t *testing.T) {
	right := entryOf(t, plainOf(3, req.Abort), ok())
	for _, wrong := range []struct {
		e       audit.Entry
		verdict int
	}{
		{audit.Entry{}, audit.Malformed},
		{entryOf(t, addOf(3, 1), ok()), audit.Malformed},
		{entryOf(t, plainOf(3, req.Abort), number(1)), audit.Otherwise},
		{entryOf(t, writeOf(3, 1, 3, 17, 18, 19), number(3)), audit.Otherwise},
		{entryOf(t, discardOf(3, 1, 0, 5), number(3)), audit.Otherwise},
		{entryOf(t, shredOf(2), fail(api.ErrTenant)), audit.Otherwise},
	} {
		b := peopled(t).book(t)
		heard := b.Heard()
		if verdict, e := b.Hear(wrong.e); verdict != wrong.verdict || e != api.OK {
			t.Fatalf("Hear: %d, %v, want %d", verdict, e, wrong.verdict)
		}
		for range 3 {
			for _, e := range []audit.Entry{right, wrong.e, {}} {
				if verdict, code := b.Hear(e); verdict != 0 || code != api.ErrState {
					t.Fatalf("Hear: %d, %v", verdict, code)
				}
			}
			wantCode(t, "Crash", b.Crash(), api.ErrState)
			if b.Heard() != heard+1 || b.Charge() != 6 {
				t.Fatalf("Heard and Charge: %d, %d", b.Heard(), b.Charge())
			}
		}
	}
}

// P34.1: Charge and Heard at each step.
func TestChargeAndHeard(t *testing.T) {
	x := peopled(t)
	charges := []int{0, 0, 0, 0, 0, 0, 2, 5, 5, 6, 6, 6}
	for place, want := range charges {
		y := &tale{2, x.l[:place]}
		y.wantCharge(t, want)
		if got := y.book(t).Heard(); got != place {
			t.Errorf("Heard: %d, want %d", got, place)
		}
	}
}
