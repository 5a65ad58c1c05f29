package mgr_test

import (
	"bytes"
	"testing"

	"casemate/api"
	"casemate/reply"
	"casemate/req"
)

// orders is all orders of so many picks of one lane and so many of another.
func orders(one, other int) [][]int {
	if one == 0 && other == 0 {
		return [][]int{nil}
	}
	var l [][]int
	if one > 0 {
		for _, o := range orders(one-1, other) {
			l = append(l, append([]int{1}, o...))
		}
	}
	if other > 0 {
		for _, o := range orders(one, other-1) {
			l = append(l, append([]int{2}, o...))
		}
	}
	return l
}

// P31.3, P31.5, P3: two lanes beside each other, in all orders: each is answered as if it were alone, at its own picks, and does not touch the other one.
func TestBeside(t *testing.T) {
	for _, order := range orders(4, 4) {
		b := peopled(t)
		mine, yours := b.data(3), b.data(2)
		one := []uint64{b.wait(t, writeOf(1, 1, 1, mine)), b.wait(t, plainOf(1, req.Commit))}
		two := []uint64{b.wait(t, writeOf(2, 1, 1, yours)), b.wait(t, readOf(2, 1, 1, 2))}
		at := [3]int{}
		for _, id := range order {
			got := b.pick(t, id)
			if id == 1 {
				wantPick(t, got, one[at[1]/3], at[1] >= 2)
			} else {
				wantPick(t, got, two[at[2]/2], at[2]%2 == 1)
			}
			at[id]++
			if id == 2 && at[2] == 4 {
				wantReply(t, "Read", got.r, reply.Reply{Number: 2, Data: yours})
			}
		}
		if got := b.must(t, 1, readOf(1, 1, 1, 3)); !bytes.Equal(got.Data, mine) {
			t.Fatal("other data are read")
		}
		wantCode(t, "Crash", b.crash(t, nil), api.OK)
		if got := b.must(t, 1, readOf(b.open(t, 1), 1, 1, 3)); !bytes.Equal(got.Data, mine) {
			t.Fatal("other data were committed")
		}
		if got := b.must(t, 2, readOf(b.open(t, 2), 1, 1, 2)); bytes.Equal(got.Data, yours) {
			t.Fatal("what was not committed lasts")
		}
		b.wantTwin(t)
	}
}

// P31.3: a tenant that is shredded while its lane is at a request, by a call to the core from without: the next pick ends it.
func TestGoneBetween(t *testing.T) {
	for ahead := 1; ahead <= 2; ahead++ {
		b := peopled(t)
		ticket := b.wait(t, writeOf(1, 2, 0, b.data(3)))
		for range ahead {
			wantPick(t, b.pick(t, 1), ticket, false)
		}
		wantCode(t, "Shred", b.m.Core().Shred(1), api.OK)
		wantCode(t, "Shred", b.p.c.Shred(1), api.OK)
		got := b.pick(t, 1)
		wantPick(t, got, ticket, true)
		wantReply(t, "Write", got.r, reply.Reply{E: api.ErrTenant})
		wantNoPick(t, b.pick(t, 1), api.ErrNone)
		b.wantTwin(t)
	}
}
