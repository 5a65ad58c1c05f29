package mgr_test

import (
	"bytes"
	"math"
	"testing"

	"casemate/api"
	"casemate/req"
)

// wantPick fails if a pick does not tell a ticket, and whether its request has ended.
func wantPick(t *testing.T, got answer, ticket uint64, ended bool) {
	t.Helper()
	if got.ticket != ticket || got.ended != ended || got.e != api.OK {
		t.Fatalf("a pick tells %d, %v, %v, want %d, %v", got.ticket, got.ended, got.e, ticket, ended)
	}
}

// wantNoPick fails if a pick does not tell an error alone.
func wantNoPick(t *testing.T, got answer, want api.Errno) {
	t.Helper()
	if got.ticket != 0 || got.ended || got.e != want || got.r.E != 0 || got.r.Number != 0 || len(got.r.Data) > 0 {
		t.Fatalf("a pick tells %d, %v, %v, want %v", got.ticket, got.ended, got.e, want)
	}
}

// wrongLanes is numbers that no tenant may have.
func wrongLanes() []int {
	return []int{math.MinInt, math.MinInt + 1, -8, -1, 0, 9, 10, 1 << 32, 1<<32 + 1, math.MaxInt}
}

// P31.3: Pick of numbers that are none, whatever the lanes have; of lanes that have none, whoever is there; Waits of these.
func TestPickNone(t *testing.T) {
	b := fresh(t, 100)
	all := func() {
		t.Helper()
		for _, id := range wrongLanes() {
			wantNoPick(t, b.pick(t, id), api.ErrArg)
			if n := b.m.Waits(id); n != 0 {
				t.Errorf("Waits(%d): %d", id, n)
			}
		}
	}
	all()
	for id := 1; id <= 8; id++ {
		wantNoPick(t, b.pick(t, id), api.ErrNone)
		b.wait(t, openOf(id, 1))
	}
	all()
	for id := 1; id <= 8; id++ {
		b.pick(t, id)
		wantNoPick(t, b.pick(t, id), api.ErrNone)
	}
	all()
	b = peopled(t)
	for _, id := range []int{1, 2, 5, 8} {
		wantNoPick(t, b.pick(t, id), api.ErrNone)
	}
}

// P31.3: Pick of the first lane and of the last one, with one request that waits and with several: they come in the order in which they were submitted, and none is done of another lane.
func TestPickOrder(t *testing.T) {
	b := fresh(t, 100)
	tickets := map[int][]uint64{}
	for i := range 8 {
		for id := 1; id <= 8; id++ {
			if i < id {
				tickets[id] = append(tickets[id], b.wait(t, openOf(id, i)))
			}
		}
	}
	for _, id := range []int{8, 1, 5, 2, 7, 3, 6, 4} {
		for i, ticket := range tickets[id] {
			if n := b.m.Waits(id); n != id-i {
				t.Fatalf("Waits(%d): %d, want %d", id, n, id-i)
			}
			got := b.pick(t, id)
			wantPick(t, got, ticket, true)
			wantCode(t, "Open of nobody", got.r.E, api.ErrTenant)
		}
		wantNoPick(t, b.pick(t, id), api.ErrNone)
	}
}

// P31.1, P31.3: a lane that is at a request goes on with it till it has ended; Waits has it, too; those behind it wait. What is submitted between waits behind them.
func TestPickSteps(t *testing.T) {
	b := peopled(t)
	data := b.data(3)
	one := b.wait(t, writeOf(1, 1, 2, data))
	two := b.wait(t, readOf(1, 1, 2, 3))
	for i := range 3 {
		if n := b.m.Waits(1); n != 2+map[bool]int{true: 1}[i == 2] {
			t.Fatalf("Waits(1): %d at the step %d", n, i)
		}
		if i == 1 {
			b.wait(t, plainOf(1, req.Status))
		}
		got := b.pick(t, 1)
		wantPick(t, got, one, i == 2)
		if i < 2 && (got.r.E != 0 || got.r.Number != 0 || len(got.r.Data) > 0) {
			t.Fatalf("there is a reply at the step %d", i)
		}
	}
	for i := range 3 {
		if n := b.m.Waits(1); n != 2 {
			t.Fatalf("Waits(1): %d at the step %d", n, i)
		}
		got := b.pick(t, 1)
		wantPick(t, got, two, i == 2)
		if i == 2 && !bytes.Equal(got.r.Data, data) {
			t.Fatal("other data are read")
		}
	}
	wantPick(t, b.pick(t, 1), two+1, true)
	if n := b.m.Waits(1); n != 0 {
		t.Fatalf("Waits(1): %d", n)
	}
}

// P31.3: what a reply has, and the numbers of sessions, are new memory: who changes them changes nothing.
func TestAnswersApart(t *testing.T) {
	b := peopled(t)
	data := b.must(t, 1, readOf(1, 2, 0, 8)).Data
	for range 2 {
		got := b.must(t, 1, readOf(1, 2, 0, 8)).Data
		if !bytes.Equal(got, data) {
			t.Fatal("other data are read")
		}
		clear(got)
		_ = append(got[:0], bytes.Repeat([]byte{9}, 4096)...)
		l := b.m.Sessions()
		clear(l)
		_ = append(l[:0], 9, 9, 9)
	}
	if l := b.m.Sessions(); len(l) != 3 || l[0] != 1 || l[1] != 2 || l[2] != 3 {
		t.Errorf("Sessions: %v", l)
	}
}

// P31.3: Next of no lane, of one, of some and of all that have some, from behind each lane that it picked last, around: each other lane that has some has its turn ahead of it.
func TestNext(t *testing.T) {
	b := fresh(t, 100)
	wantNoPick(t, b.next(t), api.ErrNone)
	for last := range 9 {
		for some := range 256 {
			if last > 0 {
				ticket := b.wait(t, openOf(last, 1))
				wantPick(t, b.next(t), ticket, true)
				wantNoPick(t, b.next(t), api.ErrNone)
			} else if some > 0 {
				b = fresh(t, 64) // which has picked none
			}
			tickets := map[int]uint64{}
			for id := 8; id >= 1; id-- {
				if some>>(id-1)&1 == 1 {
					tickets[id] = b.wait(t, openOf(id, 1))
				}
			}
			for i := range 8 {
				id := last + 1 + i
				if id > 8 {
					id -= 8
				}
				if ticket, has := tickets[id]; has {
					wantPick(t, b.next(t), ticket, true)
				}
			}
			wantNoPick(t, b.next(t), api.ErrNone)
		}
	}
}

// P31.3: a lane that is at a request has some, also where none waits; Next comes to it again behind the others, and goes on with it.
func TestNextSteps(t *testing.T) {
	b := peopled(t)
	one := b.wait(t, readOf(1, 2, 0, 4))
	two := b.wait(t, readOf(2, 1, 0, 2))
	five := b.wait(t, plainOf(3, req.Status))
	more := b.wait(t, plainOf(2, req.Status))
	b.pick(t, 1)
	// The last lane that Next picked is none, whatever Pick picked.
	for _, want := range []struct {
		ticket uint64
		ended  bool
	}{{one, false}, {two, false}, {five, true}, {one, false}, {two, true}, {one, true}, {more, true}} {
		wantPick(t, b.next(t), want.ticket, want.ended)
	}
	wantNoPick(t, b.next(t), api.ErrNone)
}

// P31.3: a Pick between, or a Next that finds nothing, leaves the lane that Next picked last.
func TestNextBehindPick(t *testing.T) {
	for _, picked := range []int{1, 2, 3, 8} {
		b := fresh(t, 64)
		b.wait(t, openOf(2, 1))
		b.next(t)
		wantNoPick(t, b.next(t), api.ErrNone)
		b.wait(t, openOf(picked, 1))
		b.pick(t, picked)
		wantNoPick(t, b.pick(t, picked), api.ErrNone)
		wantNoPick(t, b.pick(t, 0), api.ErrArg)
		eight, one, two := b.wait(t, openOf(8, 1)), b.wait(t, openOf(1, 1)), b.wait(t, openOf(2, 1))
		for _, ticket := range []uint64{eight, one, two} {
			wantPick(t, b.next(t), ticket, true)
		}
	}
}

// P31.3, P31.4: behind a crash Next goes on behind the lane that it picked last.
func TestNextBehindCrash(t *testing.T) {
	b := peopled(t)
	b.wait(t, openOf(1, 1))
	b.wait(t, openOf(2, 2))
	b.wait(t, readOf(3, 1, 0, 1))
	b.next(t)
	b.next(t)
	wantCode(t, "Crash", b.crash(t, nil), api.OK)
	wantNoPick(t, b.next(t), api.ErrNone)
	one, two, three, eight := b.wait(t, openOf(1, 1)), b.wait(t, openOf(2, 2)), b.wait(t, openOf(3, 3)), b.wait(t, openOf(8, 1))
	for _, ticket := range []uint64{three, eight, one, two} {
		wantPick(t, b.next(t), ticket, true)
	}
	wantNoPick(t, b.next(t), api.ErrNone)
}
