package mgr_test

import (
	"math/rand/v2"
	"testing"

	"casemate/api"
	"casemate/reply"
	"casemate/req"
)

// wish is a request of the tenant 3, of its session of a place, counted from 0 on in the order in which it opened them: numbers of sessions hang on what others open.
type wish struct {
	session int
	r       req.Request
}

// wishes is what the tenant 3, whose reserve is its quota, asks: some of it may not be done.
func wishes(chance *rand.Rand) []wish {
	l := []wish{{0, openOf(3, 3)}, {0, createOf(0, 1, 9)}, {0, openOf(3, 3)}}
	writes := 1000
	for range 60 {
		n, block, size := chance.IntN(4), chance.IntN(9), 1+chance.IntN(8)
		var r req.Request
		switch chance.IntN(16) {
		case 0, 1, 2, 3, 4:
			var data []byte
			for range size {
				writes++
				data = append(data, text(writes)...)
			}
			r = writeOf(0, n, block, data)
		case 5, 6:
			r = readOf(0, n, block, size)
		case 7:
			r = discardOf(0, n, block, size)
		case 8:
			r = createOf(0, n, size)
		case 9:
			r = snapshotOf(0, n, chance.IntN(6))
		case 10:
			r = plainOf(0, req.Abort)
		case 11:
			r = plainOf(0, req.Status)
		case 12:
			r = rotateOf(0, 3+chance.IntN(2), 3)
		case 13:
			r = []req.Request{openOf(3, 4), limitOf(3, 9, 8), removeOf(0, n), resizeOf(0, n, size), addOf(3, 9, 9)}[chance.IntN(5)]
		default:
			r = plainOf(0, req.Commit)
		}
		l = append(l, wish{chance.IntN(2), r})
	}
	return append(l, wish{1, plainOf(0, req.Close)}, wish{1, readOf(0, 1, 0, 8)}, wish{0, plainOf(0, req.Status)}, wish{0, readOf(0, 1, 0, 8)}, wish{0, shredOf(3)}, wish{0, plainOf(0, req.Status)})
}

// others asks for something by chance that is none of the tenant 3's business, or nothing.
func (o *random) others(t *testing.T) {
	t.Helper()
	r := o.request()
	l, e := req.Encode(r)
	i := o.p.seat(r.Session)
	switch {
	case e != api.OK:
		l = []byte{82}
	case isOfTenant(r.Kind) && r.Tenant == 3, !isOfTenant(r.Kind) && i >= 0 && o.p.seats[i].id == 3:
		return
	case r.Kind == req.Open && len(o.p.seats)+o.p.opens() >= 6:
		return // else there might be no session left
	}
	switch o.chance.IntN(4) {
	case 0:
		o.submit(t, l)
	case 1:
		o.submit(t, l[:o.chance.IntN(len(l))])
	default:
		for range o.chance.IntN(6) {
			if id := 1 + o.chance.IntN(8); id != 3 {
				o.pick(t, id)
			}
		}
	}
}

// opens is how many Opens wait.
func (p *plain) opens() int {
	n := 0
	for _, l := range p.lanes {
		for _, a := range l {
			if a.r.Kind == req.Open {
				n++
			}
		}
	}
	return n
}

// live answers all wishes, in their order; between any two picks of the tenant's lane something is done.
func (b *bed) live(t *testing.T, l []wish, between func()) []reply.Reply {
	t.Helper()
	b.must(t, 3, addOf(3, 12, 12))
	var told []reply.Reply
	var opened []int
	for _, w := range l {
		r := w.r
		if !isOfTenant(r.Kind) {
			r.Session = opened[w.session]
		}
		between()
		ticket, e := b.submit(t, encoded(t, r))
		if e != api.OK { // that is told at once
			told = append(told, reply.Reply{E: e, Number: -1})
			continue
		}
		for ended := false; !ended; {
			between()
			got := b.pick(t, 3)
			if ended = got.ended; got.ticket != ticket {
				t.Fatalf("the ticket %d, want %d", got.ticket, ticket)
			}
			if ended {
				if r.Kind == req.Open && got.r.E == api.OK {
					opened = append(opened, got.r.Number)
					got.r.Number = len(opened)
				}
				told = append(told, got.r)
			}
		}
	}
	return told
}

// P31.6, P6: a tenant whose reserve is its quota is answered the same, alone, and with others that ask, wait and are picked between, that take all they can get, say what is malformed, and come and go.
func TestApart(t *testing.T) {
	t.Parallel()
	told := map[api.Errno]int{}
	for seed := range uint64(10) {
		l := wishes(rand.New(rand.NewPCG(seed, 316)))
		alone := fresh(t, 1000).live(t, l, func() {})
		for crowd := range uint64(3) {
			o := &random{bed: fresh(t, 1000), chance: rand.New(rand.NewPCG(seed, crowd))}
			for id := 1; id <= 8; id++ {
				if id != 3 {
					o.must(t, id, addOf(id, int(crowd), 200))
				}
			}
			beside := o.live(t, l, func() { o.others(t) })
			for i, want := range alone {
				told[want.E]++
				wantReply(t, "a reply", beside[i], want)
			}
			o.wantTwin(t)
		}
	}
	for _, e := range []api.Errno{api.OK, api.ErrNone, api.ErrKey, api.ErrTenant, api.ErrVolume, api.ErrThere, api.ErrQuota, api.ErrBlock} {
		if told[e] < 5 {
			t.Errorf("%v was told %d times", e, told[e])
		}
	}
}

// P31.6: others that have all extents but the reserve leave a tenant what it has for sure, and no more.
func TestApartOfPool(t *testing.T) {
	b := fresh(t, 118) // 25 extents
	b.must(t, 3, addOf(3, 9, 9))
	b.must(t, 4, addOf(4, 0, 25))
	three, four := b.open(t, 3), b.open(t, 4)
	b.must(t, 3, createOf(three, 1, 20))
	b.must(t, 4, createOf(four, 1, 20))
	wantReply(t, "Write", b.ask(t, 4, writeOf(four, 1, 0, b.data(8))), reply.Reply{Number: 8})
	wantReply(t, "Write", b.ask(t, 4, writeOf(four, 1, 8, b.data(8))), reply.Reply{Number: 8})
	wantReply(t, "Write", b.ask(t, 4, writeOf(four, 1, 16, b.data(1))), reply.Reply{E: api.ErrPool})
	wantReply(t, "Write", b.ask(t, 3, writeOf(three, 1, 0, b.data(8))), reply.Reply{Number: 8})
	wantReply(t, "Write", b.ask(t, 3, writeOf(three, 1, 8, b.data(8))), reply.Reply{E: api.ErrQuota, Number: 1})
	b.must(t, 3, discardOf(three, 1, 0, 2))
	wantReply(t, "Write", b.ask(t, 4, writeOf(four, 1, 16, b.data(1))), reply.Reply{E: api.ErrPool})
	wantReply(t, "Write", b.ask(t, 3, writeOf(three, 1, 9, b.data(2))), reply.Reply{Number: 2})
}
