package mgr_test

import (
	"bytes"
	"testing"

	"casemate/api"
	"casemate/reply"
	"casemate/req"
)

// kinds is a request of each kind that may be, of the session s or the tenant id, by its kind.
func kinds(s, id int) map[int]req.Request {
	return map[int]req.Request{
		req.Open:     openOf(id, id),
		req.Close:    plainOf(s, req.Close),
		req.Read:     readOf(s, 2, 3, 4),
		req.Write:    writeOf(s, 2, 3, make([]byte, 1536)),
		req.Discard:  discardOf(s, 2, 3, 16),
		req.Create:   createOf(s, 3, 4),
		req.Remove:   removeOf(s, 2),
		req.Resize:   resizeOf(s, 2, 4),
		req.Snapshot: snapshotOf(s, 2, 3),
		req.Commit:   plainOf(s, req.Commit),
		req.Abort:    plainOf(s, req.Abort),
		req.Rotate:   rotateOf(s, 1, 7),
		req.Status:   plainOf(s, req.Status),
		req.Add:      addOf(id, 1, 2),
		req.Limit:    limitOf(id, 6, 30),
		req.Shred:    shredOf(id),
	}
}

// isOfTenant tells whether a request of a kind is one of a tenant, and of no session.
func isOfTenant(kind int) bool {
	return kind == req.Open || kind == req.Add || kind == req.Limit || kind == req.Shred
}

// wantBytesRefused fails if bytes are not refused by that error.
func (b *bed) wantBytesRefused(t *testing.T, l []byte, want api.Errno) {
	t.Helper()
	if ticket, e := b.submit(t, l); ticket != 0 || e != want {
		t.Fatalf("Submit of %d bytes: %d, %v, want %v", len(l), ticket, e, want)
	}
}

// P31.2, P31.7: bytes that are no request's, of each kind: none, cut, one too many, of another front, of another kind; also of sessions and tenants that there are not, since that is told behind it. Nothing has changed, and no ticket is used up.
func TestSubmitMalformed(t *testing.T) {
	b := peopled(t)
	first := b.wait(t, plainOf(2, req.Status))
	b.pick(t, 1)
	for _, l := range [][]byte{nil, {}, {82}, {82, 0}, {82, 17}, {82, 255, 0, 0}, {0}, bytes.Repeat([]byte{82}, 5000)} {
		b.wantBytesRefused(t, l, api.ErrRequest)
	}
	for _, of := range [][2]int{{1, 1}, {99, 9}, {0, 0}} {
		for kind, r := range kinds(of[0], of[1]) {
			l := encoded(t, r)
			for size := range len(l) {
				if kind == req.Write && (size-7)%512 == 0 && size > 7 {
					continue // a Write of fewer blocks
				}
				if size < 12 || size > len(l)-3 || size%61 == 0 {
					b.wantBytesRefused(t, l[:size], api.ErrRequest)
				}
			}
			b.wantBytesRefused(t, append(bytes.Clone(l), 0), api.ErrRequest)
			b.wantBytesRefused(t, append([]byte{0}, l...), api.ErrRequest)
			b.wantBytesRefused(t, append([]byte{81}, l[1:]...), api.ErrRequest)
		}
		for _, count := range []int{0, 9, 257, 65535} {
			l := encoded(t, discardOf(of[0], 1, 0, 1))
			l[1], l[7], l[8] = req.Read, byte(count>>8), byte(count)
			b.wantBytesRefused(t, l, api.ErrRequest)
		}
		b.wantBytesRefused(t, encoded(t, writeOf(of[0], 1, 0, b.data(1)))[:7], api.ErrRequest)
		b.wantBytesRefused(t, append(encoded(t, writeOf(of[0], 1, 0, b.data(8))), text(1)...), api.ErrRequest)
	}
	if then := b.wait(t, plainOf(2, req.Status)); then != first+1 {
		t.Errorf("the ticket %d, behind %d", then, first)
	}
}

// peopledTickets is how many requests were submitted to what is peopled.
const peopledTickets = 16

// P31.2: tickets are counted from 1 on; a request of each kind waits in the lane of its session, or of its tenant, and in no other one. Nothing is done ahead of a pick.
func TestSubmitKinds(t *testing.T) {
	b := fresh(t, 100)
	for id := 1; id <= 8; id++ {
		if ticket := b.wait(t, openOf(id, id)); ticket != uint64(id) {
			t.Fatalf("the ticket %d, want %d", ticket, id)
		}
	}
	for i, id := range []int{1, 2, 5} {
		for kind, r := range kinds(i+1, id) {
			b := peopled(t)
			calls := b.d.Calls()
			if ticket := b.wait(t, r); ticket != peopledTickets+1 {
				t.Errorf("the kind %d: the ticket %d", kind, ticket)
			}
			for lane := 1; lane <= 8; lane++ {
				if got, want := b.m.Waits(lane), map[bool]int{true: 1}[lane == id]; got != want {
					t.Errorf("the kind %d of %d: Waits(%d) is %d", kind, id, lane, got)
				}
			}
			if b.d.Calls() != calls || len(b.m.Sessions()) != 3 {
				t.Errorf("the kind %d was begun", kind)
			}
		}
	}
}

// P31.2: requests of sessions that there are not: 0, one ahead of any that was told, the greatest one, one that was closed; and of tenants that there can't be. Those that can be wait, whether they are there or not.
func TestSubmitNone(t *testing.T) {
	b := peopled(t)
	b.must(t, 2, plainOf(2, req.Close))
	for _, s := range []int{0, 2, 4, 5, 255, 256, 257, 65535} {
		for kind, r := range kinds(s, 1) {
			if !isOfTenant(kind) {
				b.wantRefused(t, r, api.ErrNone)
			}
		}
	}
	for _, id := range []int{0, 9, 10, 128, 255} {
		for kind, r := range kinds(1, id) {
			if isOfTenant(kind) {
				b.wantRefused(t, r, api.ErrTenant)
			}
		}
	}
	for _, id := range []int{1, 3, 8} {
		for kind, r := range kinds(1, id) {
			if isOfTenant(kind) {
				b.wait(t, r)
			}
		}
		if n := b.m.Waits(id); n != 4 {
			t.Errorf("Waits(%d): %d, want 4", id, n)
		}
	}
	for _, s := range []int{1, 3} {
		b.wait(t, plainOf(s, req.Close))
	}
	b.wantRefused(t, plainOf(2, req.Close), api.ErrNone)
}

// P31.2: a lane in which as many wait as may: with a request at which it is, and without. With fewer there is room; other lanes have theirs. What is told ahead of ErrBusy is told so there, too.
func TestSubmitBusy(t *testing.T) {
	for _, at := range []bool{false, true} {
		b := peopled(t)
		wait := 0
		if at {
			b.wait(t, readOf(1, 2, 3, 3))
			if got := b.pick(t, 1); got.ended || got.e != api.OK {
				t.Fatalf("Pick: %v, %v", got.ended, got.e)
			}
			wait = 1
		}
		for i := range 8 {
			if n := b.m.Waits(1); n != i+wait {
				t.Fatalf("Waits(1): %d, want %d", n, i+wait)
			}
			b.wait(t, []req.Request{readOf(1, 2, i, 1), openOf(1, 1)}[i%2])
		}
		for _, r := range kinds(1, 1) {
			b.wantRefused(t, r, api.ErrBusy)
			l := encoded(t, r)
			b.wantBytesRefused(t, l[:len(l)-1], api.ErrRequest)
		}
		b.wantRefused(t, plainOf(4, req.Commit), api.ErrNone)
		b.wantRefused(t, shredOf(9), api.ErrTenant)
		b.wait(t, plainOf(2, req.Status))
		b.wait(t, shredOf(3))
		if n := b.m.Waits(1); n != 8+wait {
			t.Fatalf("Waits(1): %d, want %d", n, 8+wait)
		}
		// The next pick takes the first that waits only if the lane is at none.
		b.pick(t, 1)
		if at {
			b.wantRefused(t, readOf(1, 2, 3, 3), api.ErrBusy)
			if got := b.pick(t, 1); !got.ended {
				t.Fatal("a Read goes on behind three picks")
			}
			b.wantRefused(t, readOf(1, 2, 3, 3), api.ErrBusy)
			b.pick(t, 1)
		}
		if n := b.m.Waits(1); n != 7 {
			t.Fatalf("Waits(1): %d, want 7", n)
		}
		b.wait(t, readOf(1, 2, 3, 3))
		b.wantRefused(t, readOf(1, 2, 3, 3), api.ErrBusy)
	}
}

// P31.2, P31.4: each request has the ticket behind the last one's, in whichever lane, whatever was refused or done between, and behind crashes.
func TestTickets(t *testing.T) {
	b := peopled(t)
	last := uint64(peopledTickets)
	wait := func(r req.Request) {
		t.Helper()
		last++
		if got := b.wait(t, r); got != last {
			t.Fatalf("the ticket %d, want %d", got, last)
		}
	}
	wait(openOf(7, 7))
	wait(openOf(2, 1))
	wait(plainOf(1, req.Status))
	b.wantBytesRefused(t, []byte{82, 10, 0}, api.ErrRequest)
	wait(openOf(7, 7))
	b.wantRefused(t, plainOf(9, req.Commit), api.ErrNone)
	b.wantRefused(t, shredOf(9), api.ErrTenant)
	b.pick(t, 9)
	b.pick(t, 4)
	for range 6 {
		wait(openOf(7, 7))
	}
	b.wantRefused(t, openOf(7, 7), api.ErrBusy)
	wait(openOf(1, 1))
	for range 4 {
		b.next(t)
	}
	wait(openOf(7, 7))
	wantCode(t, "Crash", b.crash(t, nil), api.OK)
	wait(openOf(1, 1))
	b.wantRefused(t, plainOf(1, req.Commit), api.ErrNone)
	wait(openOf(7, 7))
	root := rootOf(t, b.d)
	b.turn(t, root)
	wantCode(t, "Crash", b.crash(t, nil), api.ErrIntegrity)
	b.wantRefused(t, openOf(1, 1), api.ErrDown)
	b.turn(t, root)
	wantCode(t, "Crash", b.crash(t, nil), api.OK)
	wait(openOf(1, 1))
}

// P31.2: what is handed in may be changed by others behind it, and is not changed; nor is what lies behind it in its memory.
func TestSubmitApart(t *testing.T) {
	b := peopled(t)
	want := b.data(8)
	l := append(encoded(t, writeOf(1, 2, 5, want)), 1, 2, 3, 4)
	kept := bytes.Clone(l)
	ticket, e := b.m.Submit(l[:len(l)-4])
	wantCode(t, "Submit", e, api.OK)
	if !bytes.Equal(l, kept) {
		t.Fatal("the bytes were changed")
	}
	b.p.submit(kept[:len(kept)-4])
	for range 8 {
		clear(l)
		if got := b.pick(t, 1); got.ticket != ticket {
			t.Fatalf("the ticket %d, want %d", got.ticket, ticket)
		}
	}
	if got := b.must(t, 1, readOf(1, 2, 5, 8)); !bytes.Equal(got.Data, want) {
		t.Error("other data were written")
	}
}

// P31.2, P31.3: the document's examples.
func TestExamples(t *testing.T) {
	b := fresh(t, 1000)
	b.wantSessions(t)
	wantNoPick(t, b.pick(t, 1), api.ErrNone)
	b.wantBytesRefused(t, []byte{82, 10, 0, 3}, api.ErrNone)
	ticket, e := b.submit(t, []byte{82, 16, 2})
	if ticket != 1 || e != api.OK {
		t.Fatalf("Submit: %d, %v", ticket, e)
	}
	got := b.pick(t, 2)
	wantPick(t, got, 1, true)
	wantReply(t, "Shred", got.r, reply.Reply{E: api.ErrTenant})
	b.wantBytesRefused(t, []byte{82}, api.ErrRequest)
	wantCode(t, "Crash", b.crash(t, nil), api.OK)
	wantNoPick(t, b.next(t), api.ErrNone)
	ticket, e = b.submit(t, []byte{82, 15, 2, 0, 1, 0, 2})
	if ticket != 2 || e != api.OK {
		t.Fatalf("Submit: %d, %v", ticket, e)
	}
	got = b.next(t)
	wantPick(t, got, 2, true)
	wantReply(t, "Limit", got.r, reply.Reply{E: api.ErrTenant})
	wantNoPick(t, b.pick(t, 9), api.ErrArg)
}
