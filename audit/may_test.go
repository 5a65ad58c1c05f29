package audit_test

import (
	"testing"

	"casemate/api"
	"casemate/reply"
	"casemate/req"
)

// integrity is a reply that may be at any request of a session that is open.
func integrity() reply.Reply {
	return fail(api.ErrIntegrity)
}

// sessionRequests is a request of each kind that is of a session.
func sessionRequests(s int) []req.Request {
	return []req.Request{
		plainOf(s, req.Close), readOf(s, 1, 1, 2), writeOf(s, 1, 2, 17, 18), discardOf(s, 1, 1, 2), createOf(s, 7, 9), removeOf(s, 4), resizeOf(s, 2, 3),
		snapshotOf(s, 2, 6), plainOf(s, req.Commit), plainOf(s, req.Abort), rotateOf(s, 2, 80), plainOf(s, req.Status),
	}
}

// P34.1: Add, ahead of the first one, behind it, and behind a Shred.
func TestAdd(t *testing.T) {
	t.Parallel()
	none := &tale{id: 2}
	shredded := peopled(t).and(t, shredOf(2), ok())
	for _, x := range []*tale{none, shredded, none.and(t, addOf(2, 8), fail(api.ErrPool)), none.crashed()} {
		for _, quota := range []int{0, 1, 65535} {
			x.wantMay(t, addOf(2, quota), ok(), fail(api.ErrArg), fail(api.ErrPool))
		}
		// What was refused is not there.
		for _, e := range []api.Errno{api.ErrArg, api.ErrPool} {
			x.and(t, addOf(2, 1), fail(e)).wantMay(t, shredOf(2), fail(api.ErrTenant))
		}
		y := x.and(t, addOf(2, 9), ok())
		y.wantCharge(t, 0)
		y.wantMay(t, addOf(2, 9), fail(api.ErrThere))
		y.and(t, openOf(2, 2), number(40)).wantTells(t, 40, status(t, 0, 9), nil)
		y.crashed().wantMay(t, addOf(2, 9), fail(api.ErrThere))
	}
	peopled(t).wantMay(t, addOf(2, 8), fail(api.ErrThere))
}

// P34.1: Open, of the outer key and of others, with and without the tenant.
func TestOpen(t *testing.T) {
	t.Parallel()
	none, x := &tale{id: 2}, peopled(t)
	shredded := x.and(t, shredOf(2), ok())
	for _, y := range []*tale{none, shredded} {
		for _, key := range []int{2, 3} {
			y.wantMay(t, openOf(2, key), fail(api.ErrTenant), fail(api.ErrFull), integrity())
			for _, n := range []int{0, 1, 5, 6, 1<<31 - 1} {
				y.wantVerdict(t, entryOf(t, openOf(2, key), number(n)), 2)
			}
		}
	}
	for _, y := range []*tale{x, x.crashed()} {
		y.wantMay(t, openOf(2, 2), number(6), number(7), number(1<<31-1), fail(api.ErrFull), integrity())
		y.wantMay(t, openOf(2, 3), number(6), number(7), number(1<<31-1), fail(api.ErrFull), integrity(), fail(api.ErrKey))
	}
}

// P34.1: an Open's Number is greater than the last one's, whatever became of that session.
func TestOpenNumbers(t *testing.T) {
	t.Parallel()
	x := (&tale{id: 2}).and(t, addOf(2, 3), ok())
	last := 0
	for _, next := range []int{1, 2, 9, 10, 65535, 65536, 1<<31 - 2, 1<<31 - 1} {
		x = x.and(t, openOf(2, 2), number(next))
		last = next
		closed := x
		if last < 65536 {
			closed = x.and(t, plainOf(last, req.Close), ok())
		}
		again := x.and(t, shredOf(2), ok()).and(t, addOf(2, 3), ok())
		for _, y := range []*tale{x, closed, x.crashed(), again, x.and(t, openOf(2, 2), fail(api.ErrFull))} {
			for _, n := range []int{0, 1, last - 1, last} {
				y.wantVerdict(t, entryOf(t, openOf(2, 2), number(n)), 2)
			}
			if last < 1<<31-1 {
				y.and(t, openOf(2, 2), number(last+1))
			}
		}
	}
}

// P34.1: of sessions that are not open: none that was told ever, those that were closed, those that a crash ended, that of an Open that was refused.
func TestNoSession(t *testing.T) {
	t.Parallel()
	x := peopled(t).and(t, plainOf(3, req.Close), ok())
	for _, r := range sessionRequests(3) {
		x.wantMay(t, r, fail(api.ErrNone))
	}
	for _, r := range sessionRequests(5) {
		x.crashed().wantMay(t, r, fail(api.ErrNone))
	}
	for _, s := range []int{0, 1, 4, 6, 65535} {
		for _, y := range []*tale{{id: 2}, x, x.and(t, openOf(2, 2), fail(api.ErrFull))} {
			y.wantMay(t, plainOf(s, req.Close), fail(api.ErrNone))
			y.wantMay(t, plainOf(s, req.Commit), fail(api.ErrNone))
			y.wantMay(t, readOf(s, 1, 0, 1), fail(api.ErrNone))
		}
	}
}

// P34.1: Close, of a session that is open, whether there is the tenant or not; ErrIntegrity leaves it open.
func TestClose(t *testing.T) {
	t.Parallel()
	x := peopled(t)
	shredded := x.and(t, shredOf(2), ok())
	for _, y := range []*tale{x, shredded, shredded.and(t, addOf(2, 8), ok()), x.and(t, plainOf(3, req.Close), integrity())} {
		y.wantMay(t, plainOf(3, req.Close), ok(), integrity())
		closed := y.and(t, plainOf(3, req.Close), ok())
		closed.wantMay(t, plainOf(3, req.Close), fail(api.ErrNone))
		closed.wantMay(t, plainOf(5, req.Close), ok(), integrity())
	}
	x.and(t, plainOf(3, req.Close), ok()).wantTells(t, 5, peopledStatus(t), now())
}

// P34.1: a session that was opened ahead of the last Add, or whose tenant is not there: of all others ErrTenant alone.
func TestStaleSession(t *testing.T) {
	t.Parallel()
	x := peopled(t).and(t, shredOf(2), ok())
	for _, y := range []*tale{x, x.and(t, addOf(2, 8), fail(api.ErrPool)), x.and(t, addOf(2, 8), ok()), x.and(t, addOf(2, 8), ok()).and(t, openOf(2, 2), number(6))} {
		for _, r := range sessionRequests(3)[1:] {
			y.wantMay(t, r, fail(api.ErrTenant), integrity())
		}
		y.wantCharge(t, 0)
	}
	// An Add that was refused makes no session old.
	peopled(t).and(t, addOf(2, 8), fail(api.ErrThere)).wantTells(t, 3, peopledStatus(t), now())
	// The session that was opened behind the last Add is not.
	y := x.and(t, addOf(2, 8), ok()).and(t, openOf(2, 2), number(6))
	y.wantTells(t, 6, status(t, 0, 8), nil)
	z := y.and(t, shredOf(2), ok())
	z.wantMay(t, plainOf(6, req.Commit), fail(api.ErrTenant), integrity())
	z.and(t, addOf(2, 1), ok()).wantMay(t, plainOf(6, req.Commit), fail(api.ErrTenant), integrity())
}

// P34.1: Rotate: the outer key is the fresh one then, for who opens and for who rotates, behind a crash, too.
func TestRotate(t *testing.T) {
	t.Parallel()
	x := peopled(t)
	x.wantMay(t, rotateOf(3, 2, 80), ok(), integrity())
	x.wantMay(t, rotateOf(3, 3, 80), ok(), integrity(), fail(api.ErrKey))
	for _, y := range []*tale{x.and(t, rotateOf(3, 2, 80), integrity()), x.and(t, rotateOf(3, 3, 80), fail(api.ErrKey)), x.and(t, openOf(2, 3), fail(api.ErrKey))} {
		y.wantVerdict(t, entryOf(t, openOf(2, 2), fail(api.ErrKey)), 2)
		y.and(t, openOf(2, 80), fail(api.ErrKey))
	}
	for _, outer := range []int{2, 3} {
		y := x.and(t, rotateOf(3, outer, 80), ok())
		for _, z := range []*tale{y, y.and(t, plainOf(3, req.Abort), ok())} {
			z.wantMay(t, rotateOf(5, 80, 2), ok(), integrity())
			z.wantMay(t, rotateOf(5, 2, 2), ok(), integrity(), fail(api.ErrKey))
		}
		for _, z := range []*tale{y, y.crashed()} {
			z.wantVerdict(t, entryOf(t, openOf(2, 80), fail(api.ErrKey)), 2)
			z.and(t, openOf(2, 2), fail(api.ErrKey))
		}
		y.wantTells(t, 3, peopledStatus(t), now())
	}
}

// P34.1: Limit, below the charge, at it and above it; it is no change that a crash or an Abort undoes.
func TestLimit(t *testing.T) {
	t.Parallel()
	none, x := &tale{id: 2}, peopled(t)
	for _, y := range []*tale{none, x.and(t, shredOf(2), ok())} {
		for _, quota := range []int{0, 5, 65535} {
			y.wantMay(t, limitOf(2, quota), fail(api.ErrTenant))
		}
	}
	for _, quota := range []int{0, 1, 5} {
		x.wantMay(t, limitOf(2, quota), fail(api.ErrQuota))
	}
	for _, quota := range []int{6, 7, 8, 9, 2049, 65535} {
		x.wantMay(t, limitOf(2, quota), ok(), fail(api.ErrArg), fail(api.ErrPool))
		y := x.and(t, limitOf(2, quota), ok())
		y.wantTells(t, 3, status(t, 6, quota, [3]int{1, 5, 2}, [3]int{2, 12, 2}, [3]int{4, 12, 2}), now())
		z := y.crashed().and(t, openOf(2, 2), number(6))
		z.wantTells(t, 6, status(t, 5, quota, [3]int{1, 5, 2}, [3]int{2, 12, 3}), kept())
	}
	for _, e := range []api.Errno{api.ErrArg, api.ErrPool} {
		x.and(t, limitOf(2, 6), fail(e)).wantTells(t, 3, peopledStatus(t), now())
	}
	x.and(t, limitOf(2, 5), fail(api.ErrQuota)).wantTells(t, 3, peopledStatus(t), now())
	x.crashed().wantMay(t, limitOf(2, 5), ok(), fail(api.ErrArg), fail(api.ErrPool))
}

// P34.1: Shred: there is no tenant then, also behind a crash; what another one of its number has is its own.
func TestShred(t *testing.T) {
	t.Parallel()
	(&tale{id: 2}).wantMay(t, shredOf(2), fail(api.ErrTenant))
	x := peopled(t)
	x.wantMay(t, shredOf(2), ok())
	y := x.and(t, shredOf(2), ok())
	for _, z := range []*tale{y, y.crashed()} {
		z.wantCharge(t, 0)
		z.wantMay(t, shredOf(2), fail(api.ErrTenant))
		again := z.and(t, addOf(2, 3), ok()).and(t, openOf(2, 2), number(6))
		again.wantTells(t, 6, status(t, 0, 3), nil)
		again = again.and(t, createOf(6, 1, 5), ok()).and(t, writeOf(6, 1, 1, 21), number(1))
		again.wantTells(t, 6, status(t, 1, 3, [3]int{1, 5, 1}), map[int][]int{1: {0, 21, 0, 0, 0}})
		again.crashed().wantCharge(t, 0)
	}
}

// P34.1: Status: Data, a Number of 0, and nothing else.
func TestStatus(t *testing.T) {
	t.Parallel()
	x := peopled(t)
	for _, s := range []int{3, 5} {
		x.wantMay(t, plainOf(s, req.Status), peopledStatus(t), integrity())
		x.and(t, plainOf(s, req.Status), integrity()).wantTells(t, s, peopledStatus(t), now())
		x.and(t, plainOf(s, req.Status), peopledStatus(t)).wantTells(t, s, peopledStatus(t), now())
	}
}

// P34.1: Commit and Abort, one behind the other, and a crash behind each.
func TestCommitAndAbort(t *testing.T) {
	t.Parallel()
	x := peopled(t)
	x.wantMay(t, plainOf(3, req.Commit), ok(), integrity())
	x.wantMay(t, plainOf(3, req.Abort), ok(), integrity())
	for _, kind := range []int{req.Commit, req.Abort} {
		x.and(t, plainOf(3, kind), integrity()).wantTells(t, 3, peopledStatus(t), now())
	}
	reopened := func(y *tale) *tale { return y.crashed().and(t, openOf(2, 2), number(6)) }
	committed, aborted := x.and(t, plainOf(3, req.Commit), ok()), x.and(t, plainOf(5, req.Abort), ok())
	status4 := status(t, 4, 8, [3]int{1, 5, 2}, [3]int{2, 12, 2}, [3]int{4, 12, 2})
	committed.wantTells(t, 3, status4, now())
	reopened(committed).wantTells(t, 6, status4, now())
	committed.and(t, plainOf(3, req.Abort), ok()).wantTells(t, 3, status4, now())
	aborted.wantTells(t, 5, keptStatus(t), kept())
	reopened(aborted).wantTells(t, 6, keptStatus(t), kept())
	aborted.and(t, plainOf(3, req.Commit), ok()).wantTells(t, 3, keptStatus(t), kept())
	reopened(x).wantTells(t, 6, keptStatus(t), kept())
	reopened(x.and(t, plainOf(3, req.Commit), integrity())).wantTells(t, 6, keptStatus(t), kept())
	// What is done behind a Commit is none of it.
	y := committed.and(t, removeOf(3, 2), ok()).and(t, writeOf(3, 1, 0, 17), number(1)).and(t, discardOf(3, 4, 0, 12), number(2))
	y.wantTells(t, 3, status(t, 5, 8, [3]int{1, 5, 2}, [3]int{4, 12, 0}), map[int][]int{1: {17, 12, 0, 0, 0}, 4: make([]int, 12)})
	y.and(t, plainOf(3, req.Abort), ok()).wantTells(t, 3, status4, now())
	reopened(y).wantTells(t, 6, status4, now())
}

// P34.1: a crash behind each kind of request: all is as it was committed.
func TestCrash(t *testing.T) {
	t.Parallel()
	x := peopled(t)
	requests, replies := kinds(t)
	for i, r := range requests {
		y := x.and(t, r, replies[i]).crashed()
		last, key, quota := 6, 2, 8
		switch r.Kind {
		case req.Commit:
			y.wantCharge(t, 4)
			continue
		case req.Shred:
			y.wantCharge(t, 0)
			y.wantMay(t, shredOf(2), fail(api.ErrTenant))
			continue
		case req.Open:
			last = 7
		case req.Rotate:
			key = 80
		case req.Limit:
			quota = 6
		}
		y.wantCharge(t, 5)
		y.wantMay(t, openOf(2, key), number(last), number(last+1), fail(api.ErrFull), integrity())
		for _, s := range []int{3, 5, 6} {
			y.wantMay(t, plainOf(s, req.Commit), fail(api.ErrNone))
		}
		y.crashed().and(t, openOf(2, key), number(9)).wantTells(t, 9, status(t, 5, quota, [3]int{1, 5, 2}, [3]int{2, 12, 3}), kept())
	}
	b := made(t, 2)
	wantCode(t, "Crash", b.Crash(), api.OK)
	if b.Heard() != 0 || b.Charge() != 0 {
		t.Errorf("behind a crash: %d, %d", b.Heard(), b.Charge())
	}
}
