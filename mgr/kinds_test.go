package mgr_test

import (
	"bytes"
	"slices"
	"testing"

	"casemate/api"
	"casemate/reply"
	"casemate/req"
)

// P31.3, P31.5: the requests of one step each, by hand: what is answered, and that it was done with the core, and with the session's tenant alone.
func TestKindsOfOneStep(t *testing.T) {
	b := peopled(t)
	one := func(id int, r req.Request, want reply.Reply) {
		t.Helper()
		ticket := b.wait(t, r)
		got := b.pick(t, id)
		wantPick(t, got, ticket, true)
		wantReply(t, "a request of one step", got.r, want)
	}
	done, none := reply.Reply{}, reply.Reply{E: api.ErrVolume}
	one(5, createOf(3, 3, 7), done)
	one(5, createOf(3, 3, 7), reply.Reply{E: api.ErrThere})
	one(5, createOf(3, 9, 7), none)
	one(5, createOf(3, 4, 0), reply.Reply{E: api.ErrArg})
	one(1, createOf(1, 3, 7), done)
	one(2, removeOf(2, 3), none)
	one(5, resizeOf(3, 3, 9), done)
	one(5, snapshotOf(3, 3, 8), done)
	one(5, snapshotOf(3, 3, 8), reply.Reply{E: api.ErrThere})
	one(5, removeOf(3, 3), done)
	one(5, removeOf(3, 3), none)
	one(5, readOf(3, 8, 8, 1), reply.Reply{Number: 1, Data: make([]byte, 512)})
	one(5, readOf(3, 8, 9, 1), reply.Reply{E: api.ErrBlock})
	one(5, writeOf(3, 8, 8, text(9)), reply.Reply{Number: 1})
	status, _ := reply.WriteStatus(reply.Status{Charge: 1, Reserve: 3, Quota: 3, Blocks: [8]int{7: 9}, Used: [8]int{7: 1}})
	one(5, plainOf(3, req.Status), reply.Reply{Data: status})
	one(5, discardOf(3, 8, 8, 1), reply.Reply{Number: 1})
	one(5, discardOf(3, 8, 8, 1), reply.Reply{})
	gen := b.m.Core().Gen()
	one(5, plainOf(3, req.Commit), done)
	one(1, plainOf(1, req.Abort), done)
	one(1, removeOf(1, 3), none) // which was not committed
	one(5, snapshotOf(3, 8, 1), done)
	one(5, rotateOf(3, 5, 6), done)
	one(5, rotateOf(3, 5, 6), reply.Reply{E: api.ErrKey})
	one(5, plainOf(3, req.Abort), done)
	one(5, removeOf(3, 1), none)
	one(5, limitOf(5, 1, 2), done)
	one(5, limitOf(5, 3, 2), reply.Reply{E: api.ErrArg})
	one(6, limitOf(6, 1, 2), reply.Reply{E: api.ErrTenant})
	one(6, addOf(6, 0, 8), done)
	one(5, addOf(5, 0, 8), reply.Reply{E: api.ErrThere})
	one(2, shredOf(2), done)
	one(2, shredOf(2), reply.Reply{E: api.ErrTenant})
	if b.m.Core().Gen() != gen+5 {
		t.Errorf("there were %d commits", b.m.Core().Gen()-gen)
	}
	if l := b.m.Core().Tenants(); !slices.Equal(l, []int{1, 5, 6}) {
		t.Errorf("the tenants: %v", l)
	}
	if reserve, quota, _ := b.m.Core().Field().Limits(5); reserve != 1 || quota != 2 {
		t.Errorf("the limits: %d, %d", reserve, quota)
	}
	b.wantTwin(t)
}

// P31.3, P31.5: a Read, a Write and a Discard of one block to the most take a pick for each block, and end at an error; behind the last one they are answered as a whole.
func TestKindsOfSteps(t *testing.T) {
	b := peopled(t)
	b.must(t, 1, limitOf(1, 5, 65))
	run := func(r req.Request, picks int, want reply.Reply) {
		t.Helper()
		got, n := b.end(t, 1, b.wait(t, r))
		wantReply(t, "a request of blocks", got, want)
		if n != picks {
			t.Fatalf("the kind %d took %d picks, want %d", r.Kind, n, picks)
		}
	}
	for blocks := 1; blocks <= 8; blocks++ {
		data := b.data(blocks)
		run(writeOf(1, 2, 12, data), blocks, reply.Reply{Number: blocks})
		run(readOf(1, 2, 12, blocks), blocks, reply.Reply{Number: blocks, Data: data})
		run(discardOf(1, 2, 12, blocks), blocks, reply.Reply{Number: blocks})
		run(discardOf(1, 2, 12, blocks), blocks, reply.Reply{})
		run(readOf(1, 2, 12, blocks), blocks, reply.Reply{Number: blocks, Data: make([]byte, 512*blocks)})
	}
	for past := range 8 {
		want := reply.Reply{E: api.ErrBlock, Number: 7 - past}
		run(writeOf(1, 2, 13+past, b.data(8)), 8-past, want)
		run(readOf(1, 2, 13+past, 8), 8-past, want)
		run(discardOf(1, 2, 13+past, 8), 8-past, want)
	}
	b.must(t, 1, resizeOf(1, 2, 256))
	run(discardOf(1, 2, 0, 256), 256, reply.Reply{Number: 9}) // 3 to 11
	run(discardOf(1, 2, 100, 256), 157, reply.Reply{E: api.ErrBlock, Number: 156})
	run(readOf(1, 7, 0, 8), 1, reply.Reply{E: api.ErrVolume})
	b.wantTwin(t)
}

// P31.3: what waits in a lane is done as it is when it is picked, not as it was when it was submitted.
func TestDoneWhenPicked(t *testing.T) {
	b := peopled(t)
	b.wait(t, readOf(1, 3, 0, 1))
	b.wait(t, createOf(1, 3, 1))
	b.wait(t, readOf(1, 3, 0, 1))
	b.wait(t, shredOf(1))
	b.wait(t, readOf(1, 3, 0, 1))
	b.wait(t, addOf(1, 0, 1))
	b.wait(t, openOf(1, 1))
	b.wait(t, openOf(1, 2))
	for _, want := range []api.Errno{api.ErrVolume, api.OK, api.OK, api.OK, api.ErrTenant, api.OK, api.OK, api.ErrKey} {
		wantCode(t, "a reply", b.pick(t, 1).r.E, want)
	}
	b.wantTwin(t)
}

// P31.5: a request at which a lane is ends in as many picks of that lane as it has blocks, whatever other lanes do between each two of them, what is submitted then, and what is malformed.
func TestEnds(t *testing.T) {
	between := []func(b *bed, t *testing.T){
		func(*bed, *testing.T) {},
		func(b *bed, t *testing.T) { b.pick(t, 2) },
		func(b *bed, t *testing.T) { b.pick(t, 3); b.pick(t, 5); b.pick(t, 9) },
		func(b *bed, t *testing.T) { b.wantBytesRefused(t, []byte{82}, api.ErrRequest) },
		func(b *bed, t *testing.T) {
			if b.m.Waits(2) < 9 {
				b.submit(t, encoded(t, writeOf(2, 1, 1, b.data(3))))
			}
			b.submit(t, encoded(t, plainOf(1, req.Abort)))
			b.pick(t, 2)
		},
	}
	for _, do := range between {
		for blocks := 1; blocks <= 8; blocks++ {
			for _, kind := range []int{req.Read, req.Write, req.Discard} {
				b := peopled(t)
				for range 3 {
					b.wait(t, writeOf(2, 1, 0, b.data(8)))
					b.wait(t, openOf(3, 1))
					b.wait(t, createOf(3, 1, 1))
				}
				r := kinds(1, 1)[kind]
				r.Data, r.Count = bytes.Repeat(r.Data, 6)[:min(len(r.Data), 1)*512*blocks], min(r.Count, 1)*blocks
				ticket := b.wait(t, r)
				for pick := 1; pick <= blocks; pick++ {
					wantPick(t, b.pick(t, 1), ticket, pick == blocks)
					do(b, t)
				}
			}
		}
	}
}
