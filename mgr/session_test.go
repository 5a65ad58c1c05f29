package mgr_test

import (
	"bytes"
	"slices"
	"testing"

	"casemate/api"
	"casemate/disk"
	"casemate/reply"
	"casemate/req"
	"casemate/slot"
)

// wantSessions fails if there are other sessions.
func (b *bed) wantSessions(t *testing.T, want ...int) {
	t.Helper()
	if got := b.m.Sessions(); !slices.Equal(got, want) {
		t.Fatalf("Sessions: %v, want %v", got, want)
	}
}

// P31.3: Open: sessions have numbers from 1 on, of whichever tenant; one that is refused has none, and nothing has changed. As many as there may be, and one more, which is told first.
func TestOpen(t *testing.T) {
	b := fresh(t, 200)
	b.must(t, 3, addOf(3, 0, 9))
	b.must(t, 8, addOf(8, 0, 9))
	var l []int
	for i := range 8 {
		id := []int{3, 8, 8}[i%3]
		b.wantSessions(t, l...)
		wantReply(t, "Open of nobody", b.ask(t, 1, openOf(1, 1)), reply.Reply{E: api.ErrTenant})
		wantReply(t, "Open with another key", b.ask(t, id, openOf(id, 1)), reply.Reply{E: api.ErrKey})
		b.wantSessions(t, l...)
		wantReply(t, "Open", b.ask(t, id, openOf(id, id)), reply.Reply{Number: i + 1})
		l = append(l, i+1)
	}
	for range 2 {
		for _, id := range []int{1, 3, 8} {
			for _, key := range []int{1, id} {
				wantReply(t, "Open of one more", b.ask(t, id, openOf(id, key)), reply.Reply{E: api.ErrFull})
			}
		}
		b.wantSessions(t, l...)
	}
	wantReply(t, "Close", b.ask(t, 8, plainOf(5, req.Close)), reply.Reply{})
	b.wantSessions(t, 1, 2, 3, 4, 6, 7, 8)
	wantReply(t, "Open of nobody", b.ask(t, 1, openOf(1, 1)), reply.Reply{E: api.ErrTenant})
	wantReply(t, "Open", b.ask(t, 8, openOf(8, 8)), reply.Reply{Number: 9})
	b.wantSessions(t, 1, 2, 3, 4, 6, 7, 8, 9)
	wantReply(t, "Open of one more", b.ask(t, 3, openOf(3, 3)), reply.Reply{E: api.ErrFull})
}

// P31.3: Open: how many sessions there are is asked for when it is picked, not when it is submitted.
func TestOpenWhenPicked(t *testing.T) {
	b := peopled(t)
	for range 8 {
		b.wait(t, openOf(1, 1))
	}
	for i := range 8 {
		want := reply.Reply{Number: 4 + i}
		if i >= 5 {
			want = reply.Reply{E: api.ErrFull}
		}
		wantReply(t, "Open", b.pick(t, 1).r, want)
	}
	b.wait(t, openOf(1, 1))
	b.must(t, 2, plainOf(2, req.Close))
	wantReply(t, "Open", b.pick(t, 1).r, reply.Reply{Number: 9})
}

// P31.3: Open: the error of the core, of a slot that was turned, and of a disk that is down.
func TestOpenRefused(t *testing.T) {
	b := peopled(t)
	place, e := slot.Place(1, 0)
	wantCode(t, "Place", e, api.OK)
	b.turn(t, place)
	wantReply(t, "Open with a slot that was turned", b.ask(t, 1, openOf(1, 1)), reply.Reply{E: api.ErrIntegrity})
	wantReply(t, "Open of another one", b.ask(t, 2, openOf(2, 2)), reply.Reply{Number: 4})
	b.turn(t, place)
	b.fail(t, 0)
	wantReply(t, "Commit of a disk that goes down", b.ask(t, 1, plainOf(1, req.Commit)), reply.Reply{E: api.ErrDown})
	wantReply(t, "Open of a disk that is down", b.ask(t, 1, openOf(1, 1)), reply.Reply{E: api.ErrDown})
	b.wantSessions(t, 1, 2, 3, 4)
	// A Close asks for no disk.
	wantReply(t, "Close", b.ask(t, 1, plainOf(1, req.Close)), reply.Reply{})
	b.wantSessions(t, 2, 3, 4)
}

// P31.3: Close of a session that there is, that was closed while it waited, and that was closed ahead of it.
func TestClose(t *testing.T) {
	b := peopled(t)
	four := b.open(t, 1)
	for range 2 {
		b.wait(t, plainOf(four, req.Close))
	}
	b.wait(t, plainOf(1, req.Status))
	wantReply(t, "Close", b.pick(t, 1).r, reply.Reply{})
	b.wantSessions(t, 1, 2, 3)
	wantReply(t, "Close of one that was closed", b.pick(t, 1).r, reply.Reply{E: api.ErrNone})
	b.wantSessions(t, 1, 2, 3)
	b.wantRefused(t, plainOf(four, req.Close), api.ErrNone)
	wantCode(t, "Status of another session", b.pick(t, 1).r.E, api.OK)
	for _, s := range []int{2, 3, 1} {
		id := []int{0, 1, 2, 5}[s]
		wantReply(t, "Close", b.ask(t, id, plainOf(s, req.Close)), reply.Reply{})
		b.wantRefused(t, plainOf(s, req.Close), api.ErrNone)
	}
	b.wantSessions(t)
	wantReply(t, "Open", b.ask(t, 1, openOf(1, 1)), reply.Reply{Number: 5})
}

// P31.3: requests of each kind of a session that was closed while they waited: ErrNone alone, at the first pick, and nothing is done. Those of its tenant are done.
func TestClosedWhileWaiting(t *testing.T) {
	for kind, r := range kinds(4, 1) {
		b := peopled(t)
		b.open(t, 1)
		b.wait(t, plainOf(4, req.Close))
		ticket := b.wait(t, r)
		wantReply(t, "Close", b.pick(t, 1).r, reply.Reply{})
		calls := b.d.Calls()
		got := b.pick(t, 1)
		wantPick(t, got, ticket, true)
		if !isOfTenant(kind) {
			wantReply(t, "a request of a session that was closed", got.r, reply.Reply{E: api.ErrNone})
			if b.d.Calls() != calls {
				t.Errorf("the kind %d was done", kind)
			}
		}
		b.wantTwin(t)
	}
}

// P31.3: a Close that is submitted while the lane is at a request of its session waits till that has ended; all that wait behind it are told ErrNone, those of another session of the tenant are done.
func TestClosedWhileAt(t *testing.T) {
	for ahead := 1; ahead <= 4; ahead++ {
		b := peopled(t)
		other := b.open(t, 1)
		data := b.data(5)
		write := b.wait(t, writeOf(1, 2, 2, data))
		for range ahead {
			wantPick(t, b.pick(t, 1), write, false)
		}
		shut := b.wait(t, plainOf(1, req.Close))
		late := b.wait(t, readOf(1, 2, 2, 5))
		read := b.wait(t, readOf(other, 2, 2, 5))
		for i := range 5 - ahead {
			wantPick(t, b.pick(t, 1), write, i == 4-ahead)
		}
		wantPick(t, b.pick(t, 1), shut, true)
		got := b.pick(t, 1)
		wantPick(t, got, late, true)
		wantReply(t, "Read of a session that was closed", got.r, reply.Reply{E: api.ErrNone})
		r, picks := b.end(t, 1, read)
		if wantReply(t, "Read", r, reply.Reply{Number: 5, Data: data}); picks != 5 {
			t.Errorf("%d picks", picks)
		}
	}
}

// P31.3: two sessions of one tenant have the same volumes, and one that is closed leaves the other one; a session reads what one ahead of it wrote.
func TestSessionsOfOne(t *testing.T) {
	b := peopled(t)
	other := b.open(t, 1)
	data := b.data(2)
	b.must(t, 1, writeOf(1, 2, 0, data))
	b.must(t, 1, plainOf(1, req.Close))
	if got := b.must(t, 1, readOf(other, 2, 0, 2)); !bytes.Equal(got.Data, data) {
		t.Error("other data are read")
	}
	b.must(t, 1, plainOf(other, req.Abort))
	if got := b.must(t, 1, readOf(b.open(t, 1), 2, 0, 2)); !bytes.Equal(got.Data, make([]byte, 1024)) {
		t.Error("what was not committed is read")
	}
}

// P31.3: a session of a tenant that was shredded is still there, and told ErrTenant by each kind, also if there is a tenant of that number again; a fresh session is of that one.
func TestShreddedSession(t *testing.T) {
	b := peopled(t)
	b.must(t, 1, shredOf(1))
	all := func() {
		t.Helper()
		b.wantSessions(t, 1, 2, 3)
		for kind, r := range kinds(1, 1) {
			if !isOfTenant(kind) && kind != req.Close {
				wantReply(t, "a request of a session whose tenant is gone", b.ask(t, 1, r), reply.Reply{E: api.ErrTenant})
			}
		}
		wantReply(t, "Read", b.ask(t, 1, readOf(1, 1, 0, 8)), reply.Reply{E: api.ErrTenant})
	}
	all()
	wantReply(t, "Open", b.ask(t, 1, openOf(1, 1)), reply.Reply{E: api.ErrTenant})
	b.must(t, 1, addOf(1, 2, 9))
	all()
	s := b.open(t, 1)
	b.must(t, 1, createOf(s, 3, 4))
	wantReply(t, "Remove", b.ask(t, 1, removeOf(s, 1)), reply.Reply{E: api.ErrVolume})
	wantReply(t, "Close", b.ask(t, 1, plainOf(1, req.Close)), reply.Reply{})
	b.wantSessions(t, 2, 3, 4)
	b.wantTwin(t)
}

// P31.3: a session goes on behind a Rotate, by whichever session; the fresh key opens from then on.
func TestRotatedSession(t *testing.T) {
	b := peopled(t)
	data := b.data(1)
	b.must(t, 1, writeOf(1, 1, 4, data))
	wantReply(t, "Rotate with another key", b.ask(t, 1, rotateOf(1, 7, 8)), reply.Reply{E: api.ErrKey})
	b.must(t, 1, rotateOf(1, 1, 7))
	if got := b.must(t, 1, readOf(1, 1, 4, 1)); !bytes.Equal(got.Data, data) {
		t.Error("other data are read")
	}
	wantReply(t, "Open with the old key", b.ask(t, 1, openOf(1, 1)), reply.Reply{E: api.ErrKey})
	wantReply(t, "Open with the fresh key", b.ask(t, 1, openOf(1, 7)), reply.Reply{Number: 4})
	b.disks(t, func(d *disk.Disk) api.Errno { return d.Flush() })
	b.wantTwin(t)
}
