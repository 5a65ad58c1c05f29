package mgr_test

import (
	"bytes"
	"slices"
	"strconv"
	"testing"

	"casemate/api"
	"casemate/disk"
	"casemate/req"
	"casemate/super"
)

// keeps is which of the writes that wait are kept: none, some, all.
func keeps() [][]byte {
	return [][]byte{nil, {}, {0x55}, bytes.Repeat([]byte{0xaa}, 40), {0, 0, 255}, bytes.Repeat([]byte{255}, 40)}
}

// told is what can be read of the tenants, by sessions that are opened for that and closed then, and whether a tenant's outer key is the fresh one.
func (b *bed) told(t *testing.T) []byte {
	t.Helper()
	var all []byte
	for id := 1; id <= 8; id++ {
		got := b.ask(t, id, openOf(id, id))
		if got.E == api.ErrKey {
			all = append(all, "rotated"...)
			got = b.ask(t, id, openOf(id, 7))
		}
		all = append(all, byte(id), byte(got.E))
		if got.E != api.OK {
			continue
		}
		s := got.Number
		all = append(all, b.must(t, id, plainOf(s, req.Status)).Data...)
		for n := 1; n <= 8; n++ {
			for block, more := 0, true; more; block += 8 {
				got := b.ask(t, id, readOf(s, n, block, 8))
				all, more = append(all, got.Data...), got.E == api.OK
				if got.Number > 0 && !more { // the last blocks of a volume
					all = append(all, b.must(t, id, readOf(s, n, block, got.Number)).Data...)
				}
			}
		}
		b.must(t, id, plainOf(s, req.Close))
	}
	return all
}

// P31.4: behind a crash, of which nothing, some or all of what waited is kept, all is as it was committed last; there are no sessions, the lanes are empty, tickets and the sessions' numbers count on; the core is another one.
func TestCrash(t *testing.T) {
	t.Parallel()
	var first []byte
	for _, keep := range keeps() {
		b := peopled(t)
		was, epoch := b.m.Core(), b.m.Core().Epoch()
		b.wait(t, writeOf(1, 2, 0, b.data(2)))
		b.pick(t, 1)
		for range 8 {
			b.wait(t, writeOf(1, 2, 0, b.data(2)))
			b.wait(t, openOf(7, 7))
			b.wait(t, plainOf(3, req.Status))
		}
		if b.d.Waits() == 0 || b.m.Waits(1) != 9 {
			t.Fatalf("%d writes and %d requests wait", b.d.Waits(), b.m.Waits(1))
		}
		wantCode(t, "Crash", b.crash(t, keep), api.OK)
		if b.m.Core() == was || b.m.Core().Epoch() != epoch+1 || b.d.Waits() > 0 {
			t.Fatalf("the core was not mounted anew: the epoch %d", b.m.Core().Epoch())
		}
		b.wantSessions(t)
		for id := 1; id <= 8; id++ {
			if b.m.Waits(id) != 0 {
				t.Fatalf("there is something in the lane %d", id)
			}
			wantNoPick(t, b.pick(t, id), api.ErrNone)
		}
		wantNoPick(t, b.next(t), api.ErrNone)
		for s := range 5 {
			b.wantRefused(t, plainOf(s, req.Status), api.ErrNone)
		}
		tickets := b.p.tickets
		if got := b.wait(t, openOf(5, 5)); got != tickets+1 || got <= peopledTickets {
			t.Fatalf("the ticket %d", got)
		}
		if got := b.pick(t, 5); got.r.Number != 4 {
			t.Fatalf("the session %d, want 4", got.r.Number)
		}
		b.wantSessions(t, 4)
		told := b.told(t)
		if first == nil {
			first = told
		}
		if !bytes.Equal(told, first) {
			t.Fatal("what was not committed is told, or what was is not")
		}
		b.wantTwin(t)
	}
}

// P31.4: crashes one behind the other, with nothing between.
func TestCrashAgain(t *testing.T) {
	b := peopled(t)
	told := b.told(t)
	b.must(t, 1, plainOf(1, req.Commit))
	for i, keep := range keeps() {
		epoch := b.m.Core().Epoch()
		wantCode(t, "Crash", b.crash(t, keep), api.OK)
		if b.m.Core().Epoch() != epoch+1 {
			t.Fatalf("the epoch %d behind %d", b.m.Core().Epoch(), epoch)
		}
		if i%2 == 0 && !bytes.Equal(b.told(t), told) {
			t.Fatal("what was committed does not last")
		}
	}
}

// calls is requests that change something, and can be done to what is peopled.
func calls() []req.Request {
	return []req.Request{
		writeOf(1, 2, 2, bytes.Repeat([]byte{7}, 1024)), discardOf(1, 2, 3, 2), createOf(1, 3, 9), removeOf(1, 2), resizeOf(1, 2, 6), snapshotOf(1, 2, 7),
		plainOf(1, req.Commit), plainOf(1, req.Abort), rotateOf(1, 1, 7), addOf(3, 1, 9), limitOf(1, 6, 39), shredOf(1), shredOf(2),
	}
}

// laneOf is the lane of one of these.
func laneOf(r req.Request) int {
	return max(r.Tenant, min(r.Session, 1))
}

// lasting is what is told behind a crash of what is peopled to which some requests are done ahead.
func lasting(t *testing.T, l ...req.Request) []byte {
	t.Helper()
	b := peopled(t)
	for _, r := range l {
		b.must(t, laneOf(r), r)
	}
	wantCode(t, "Crash", b.crash(t, nil), api.OK)
	return b.told(t)
}

// P31.4, P5: a crash in each call, cut off at each of its writes, with none, some and all of what waited kept: mounted anew all is as it was committed last, and the call as a whole just if the register was set.
func TestCrashInEachCall(t *testing.T) {
	before := lasting(t)
	for i, r := range calls() {
		t.Run(strconv.Itoa(i), func(t *testing.T) {
			t.Parallel()
			after := lasting(t, r)
			for cut, done := 0, false; !done; cut++ {
				for _, keep := range [][]byte{nil, keeps()[2+cut%3], keeps()[5]} {
					done = cutOff(t, r, cut, keep, before, after)
				}
			}
		})
	}
}

// cutOff does a request that is cut off behind so many calls, and crashes. It fails if what is told then is neither what it was, nor what it should be, or not that which the register says. Was the request done?
func cutOff(t *testing.T, r req.Request, cut int, keep, before, after []byte) bool {
	t.Helper()
	b := peopled(t)
	gen := b.m.Core().Gen()
	b.fail(t, cut)
	got := b.ask(t, laneOf(r), r)
	if got.E != api.OK && got.E != api.ErrDown {
		t.Fatalf("the reply: %v", got.E)
	}
	wantCode(t, "Crash", b.crash(t, keep), api.OK)
	want := before
	if b.m.Core().Gen() != gen {
		want = after
	}
	if told := b.told(t); !bytes.Equal(told, want) {
		t.Fatalf("cut off behind %d calls it is not as it should be", cut)
	}
	b.wantTwin(t)
	return got.E == api.OK
}

// P31.4: a crash ends a plan, and a disk that is down is up again behind it, whatever was told ErrDown ahead.
func TestCrashOfDown(t *testing.T) {
	b := peopled(t)
	b.fail(t, 1)
	for range 3 {
		b.ask(t, 1, plainOf(1, req.Commit))
		b.ask(t, 2, writeOf(2, 1, 1, b.data(1)))
		b.ask(t, 2, openOf(2, 2))
	}
	wantCode(t, "a reply", b.ask(t, 2, openOf(2, 2)).E, api.ErrDown)
	b.wait(t, shredOf(2))
	wantCode(t, "Crash", b.crash(t, nil), api.OK)
	if b.d.Down() {
		t.Fatal("the disk is down")
	}
	s := b.open(t, 1)
	b.must(t, 1, writeOf(s, 1, 0, b.data(4)))
	b.must(t, 1, plainOf(s, req.Commit))
	if l := b.m.Core().Tenants(); !slices.Equal(l, []int{1, 2, 5}) {
		t.Errorf("the tenants: %v", l)
	}
}

// wrecks is ways to let a disk not be mounted, and the errors of that; done again, each is undone.
func wrecks(t *testing.T, b *bed) map[string]struct {
	do   func()
	want api.Errno
} {
	t.Helper()
	root := rootOf(t, b.d)
	shown, e := b.d.Reg()
	wantCode(t, "Reg", e, api.OK)
	r, e := super.ReadReg(shown)
	wantCode(t, "ReadReg", e, api.OK)
	other := [64]byte{}
	register := func() {
		b.disks(t, func(d *disk.Disk) api.Errno {
			wantCode(t, "SetReg", d.SetReg(other), api.OK)
			return api.OK
		})
		shown, other = other, shown
	}
	return map[string]struct {
		do   func()
		want api.Errno
	}{
		"the head":         {func() { b.turn(t, uint32(r.Which)) }, api.ErrIntegrity},
		"the forest":       {func() { b.turn(t, root) }, api.ErrIntegrity},
		"a blank register": {register, api.ErrState},
	}
}

// P31.4: where the mount behind a crash fails, its error is told, and all calls but Crash tell ErrDown; so does each further crash tell it, till a mount is done: then there are no sessions, the lanes are empty, and tickets and the numbers of sessions count on.
func TestCrashFails(t *testing.T) {
	t.Parallel()
	told := lasting(t)
	for _, what := range []string{"the head", "the forest", "a blank register"} {
		for _, keep := range keeps() {
			b := peopled(t)
			for range 3 {
				b.wait(t, readOf(1, 2, 0, 3))
				b.wait(t, plainOf(2, req.Status))
				b.pick(t, 1)
			}
			wreck := wrecks(t, b)[what]
			wreck.do()
			for range 3 {
				wantCode(t, what, b.crash(t, keep), wreck.want)
				wantDead(t, b.m, api.ErrDown)
				wantNoPick(t, b.next(t), api.ErrDown)
				wantNoPick(t, b.pick(t, 0), api.ErrDown)
				b.wantBytesRefused(t, []byte{82}, api.ErrDown)
			}
			calls := b.d.Calls()
			wantDead(t, b.m, api.ErrDown)
			if b.d.Calls() != calls {
				t.Fatal("the disk was changed")
			}
			wreck.do()
			wantDead(t, b.m, api.ErrDown)
			wantCode(t, what, b.crash(t, keep), api.OK)
			b.wantSessions(t)
			wantNoPick(t, b.next(t), api.ErrNone)
			wantNoPick(t, b.pick(t, 1), api.ErrNone)
			b.wantRefused(t, plainOf(1, req.Status), api.ErrNone)
			if ticket := b.wait(t, openOf(2, 2)); ticket != peopledTickets+7 {
				t.Fatalf("the ticket %d", ticket)
			}
			if got := b.next(t); got.r.Number != 4 || got.r.E != api.OK {
				t.Fatalf("Open: %v", got.r)
			}
			if !bytes.Equal(b.told(t), told) {
				t.Fatal("what was committed does not last")
			}
		}
	}
}
