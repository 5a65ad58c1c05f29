package audit_test

import (
	"slices"
	"testing"

	"casemate/api"
	"casemate/audit"
	"casemate/reply"
	"casemate/req"
)

// kinds is a request of each kind, all of which may be asked by the tenant 2 that is peopled, and what may be answered then.
func kinds(t *testing.T) ([]req.Request, []reply.Reply) {
	return []req.Request{
		openOf(2, 2), plainOf(3, req.Close), readOf(3, 1, 1, 2), writeOf(3, 1, 2, 17, 18), discardOf(3, 1, 1, 2), createOf(3, 7, 9), removeOf(3, 4), resizeOf(3, 2, 3),
		snapshotOf(3, 2, 6), plainOf(3, req.Commit), plainOf(3, req.Abort), rotateOf(3, 2, 80), plainOf(3, req.Status), addOf(2, 9), limitOf(2, 6), shredOf(2),
	}, []reply.Reply{
		number(6), ok(), read(12, 0), number(2), number(1), ok(), ok(), ok(),
		ok(), ok(), ok(), ok(), peopledStatus(t), fail(api.ErrThere), ok(), ok(),
	}
}

// wantVerdict fails if another verdict is told of an entry behind the tale.
func (x *tale) wantVerdict(t *testing.T, e audit.Entry, want int) {
	t.Helper()
	b := x.book(t)
	charge := b.Charge()
	verdict, code := b.Hear(e)
	if verdict != want || code != api.OK {
		t.Fatalf("Hear(%v, %v): %d, %v, want %d", e.Request[:min(len(e.Request), 9)], e.Reply[:min(len(e.Reply), 9)], verdict, code, want)
	}
	if want != audit.Fits && b.Charge() != charge {
		t.Fatalf("the charge is %d, not %d", b.Charge(), charge)
	}
}

// P34.1: a request that can't be read, of each kind: empty, cut, of a byte too many, of other first bytes, of no kind.
func TestMalformedRequest(t *testing.T) {
	x := peopled(t)
	requests, replies := kinds(t)
	for i, r := range requests {
		e := entryOf(t, r, replies[i])
		x.wantVerdict(t, e, audit.Fits)
		q := e.Request
		wrong := [][]byte{nil, q[:1], q[:2], q[:len(q)-1], append(slices.Clone(q), 0), append([]byte{81}, q[1:]...), append([]byte{82, 0}, q[2:]...), append([]byte{82, 17}, q[2:]...), append([]byte{0}, q...)}
		for _, b := range wrong {
			x.wantVerdict(t, audit.Entry{Request: b, Reply: e.Reply}, audit.Malformed)
			x.wantVerdict(t, audit.Entry{Request: b}, audit.Malformed)
		}
	}
	for _, r := range [][]byte{{82, 3, 0, 3, 1, 0, 0, 0, 0}, {82, 3, 0, 3, 1, 0, 0, 0, 9}, {82, 4, 0, 3, 1, 0, 0}, {82, 5, 0, 3, 1, 0, 0, 0, 0}, {82, 5, 0, 3, 1, 0, 0, 1, 1}} {
		x.wantVerdict(t, audit.Entry{Request: r, Reply: make([]byte, 6)}, audit.Malformed)
	}
}

// P34.1: a reply that can't be read, to each kind: empty, cut, of a Number that is too great, of too many Data.
func TestMalformedReply(t *testing.T) {
	x := peopled(t)
	requests, replies := kinds(t)
	for i, r := range requests {
		e := entryOf(t, r, replies[i])
		for n := range 6 {
			x.wantVerdict(t, audit.Entry{Request: e.Request, Reply: e.Reply[:n]}, audit.Malformed)
		}
		x.wantVerdict(t, audit.Entry{Request: e.Request, Reply: []byte{0, 0, 128, 0, 0, 0}}, audit.Malformed)
		x.wantVerdict(t, audit.Entry{Request: e.Request, Reply: []byte{0, 51, 255, 255, 255, 255}}, audit.Malformed)
		x.wantVerdict(t, audit.Entry{Request: e.Request, Reply: make([]byte, 6+4097)}, audit.Malformed)
		x.wantVerdict(t, audit.Entry{Request: e.Request, Reply: make([]byte, 6+4096)}, audit.Otherwise)
	}
}

// P34.1: of another tenant, whether there is that one or not, however it was answered.
func TestMalformedTenant(t *testing.T) {
	for _, x := range []*tale{{id: 2}, peopled(t)} {
		for _, id := range []int{0, 1, 3, 8, 9, 255} {
			for _, r := range []req.Request{openOf(id, 2), addOf(id, 3), limitOf(id, 8), shredOf(id)} {
				for _, a := range []reply.Reply{ok(), number(6), fail(api.ErrTenant), fail(api.ErrThere), fail(api.ErrIntegrity), fail(api.ErrFull)} {
					x.wantVerdict(t, entryOf(t, r, a), audit.Malformed)
				}
			}
		}
	}
}

// P34.1: of a reserve that is not the quota, below it and above it, however it was answered.
func TestMalformedReserve(t *testing.T) {
	for _, x := range []*tale{{id: 2}, peopled(t)} {
		for _, limits := range [][2]int{{0, 1}, {7, 8}, {8, 7}, {0, 65535}, {65535, 0}, {256, 0}} {
			for _, r := range []req.Request{addOf(2, 0), limitOf(2, 0)} {
				r.Reserve, r.Quota = limits[0], limits[1]
				for _, a := range []reply.Reply{ok(), fail(api.ErrArg), fail(api.ErrThere), fail(api.ErrTenant), fail(api.ErrQuota)} {
					x.wantVerdict(t, entryOf(t, r, a), audit.Malformed)
				}
			}
		}
	}
}

// P34.1: what is handed in is neither changed nor kept.
func TestHandedIn(t *testing.T) {
	x := peopled(t)
	requests, replies := kinds(t)
	for i, r := range requests {
		b := x.book(t)
		e, was := entryOf(t, r, replies[i]), entryOf(t, r, replies[i])
		if verdict, code := b.Hear(e); verdict != audit.Fits || code != api.OK {
			t.Fatalf("Hear: %d, %v", verdict, code)
		}
		same(t, "a request", e.Request, was.Request)
		same(t, "a reply", e.Reply, was.Reply)
		clear(e.Request)
		clear(e.Reply)
		if r.Kind != req.Write {
			continue
		}
		if verdict, code := b.Hear(entryOf(t, readOf(3, 1, 2, 2), read(17, 18))); verdict != audit.Fits || code != api.OK {
			t.Errorf("Hear of what was written: %d, %v", verdict, code)
		}
	}
}
