package mgr_test

import (
	"bytes"
	"math/rand/v2"
	"testing"

	"casemate/api"
	"casemate/disk"
	"casemate/req"
)

// random asks for things by chance, of small numbers, so that they often have to do with one another.
type random struct {
	*bed
	chance  *rand.Rand
	refused map[api.Errno]int // by Submit
	picked  map[api.Errno]int // by Pick and Next
	told    map[api.Errno]int // by replies
	crashed map[api.Errno]int // by Crash
}

// request is a request, often one that may be done.
func (o *random) request() req.Request {
	c := o.chance
	s := o.p.sessions - c.IntN(11) // also ones that are closed
	if len(o.p.seats) > 0 && c.IntN(8) > 0 {
		s = o.p.seats[c.IntN(len(o.p.seats))].number
	}
	s = max(s, 0)
	id, n, block, size := 1+c.IntN(4), c.IntN(4), c.IntN(9), 1+c.IntN(8)
	if c.IntN(30) == 0 {
		id = c.IntN(11)
	}
	switch c.IntN(30) {
	case 0, 1, 2, 3:
		return openOf(id, id+c.IntN(9)/8)
	case 4, 5:
		return plainOf(s, req.Close)
	case 6, 7, 8:
		return readOf(s, n, block, size)
	case 9, 10, 11, 12, 13:
		return writeOf(s, n, block, o.data(size))
	case 14, 15:
		return discardOf(s, n, block, size)
	case 16, 17, 18:
		return createOf(s, n, c.IntN(14))
	case 19:
		return removeOf(s, n)
	case 20:
		return resizeOf(s, n, c.IntN(14))
	case 21:
		return snapshotOf(s, n, c.IntN(6))
	case 22:
		return plainOf(s, req.Abort)
	case 23:
		return plainOf(s, req.Status)
	case 24:
		return rotateOf(s, id, id)
	case 25, 26:
		reserve := c.IntN(6)
		return addOf(id, reserve, reserve-1+c.IntN(9))
	case 27:
		return limitOf(id, c.IntN(12), 4+c.IntN(12))
	case 28:
		if c.IntN(4) == 0 {
			return shredOf(id)
		}
	}
	return plainOf(s, req.Commit)
}

// submits submits a request, or what is none.
func (o *random) submits(t *testing.T) {
	t.Helper()
	r := o.request()
	l, e := req.Encode(r)
	if e != api.OK {
		l = []byte{82, byte(r.Kind)}
	}
	if o.chance.IntN(15) == 0 {
		l = l[:o.chance.IntN(len(l))]
	}
	_, e = o.submit(t, l)
	o.refused[e]++
}

// heard counts what a pick told.
func (o *random) heard(got answer) {
	o.picked[got.e]++
	if got.ended {
		o.told[got.r.E]++
	}
}

// step does a step.
func (o *random) step(t *testing.T) {
	t.Helper()
	kind := o.chance.IntN(300)
	if (o.d.Down() || o.p.c == nil) && o.chance.IntN(12) == 0 {
		kind = 299
	}
	switch {
	case kind < 130:
		o.submits(t)
	case kind < 220:
		id := 1 + o.chance.IntN(4)
		if o.chance.IntN(40) == 0 {
			id = o.chance.IntN(12) - 1
		}
		o.heard(o.pick(t, id))
	case kind < 295:
		o.heard(o.next(t))
	case kind < 296:
		o.fail(t, o.chance.IntN(30))
	case kind < 298:
		o.turned(t)
	default:
		o.crashed[o.crash(t, bytes.Repeat([]byte{byte(o.chance.Uint32())}, 20))]++
	}
}

// turned turns a sector for some steps, and turns it back, unless it was written anew.
func (o *random) turned(t *testing.T) {
	t.Helper()
	if o.d.Down() || o.p.c == nil {
		return
	}
	s := uint32(o.chance.IntN(o.d.Size()))
	if o.chance.IntN(2) == 0 {
		s %= 2 // a head
	}
	was := mustRead(t, o.d, s)
	o.turn(t, s)
	noise := mustRead(t, o.d, s)
	if o.chance.IntN(4) == 0 {
		o.crashed[o.crash(t, nil)]++
	}
	for range o.chance.IntN(10) {
		o.step(t)
	}
	if sure, e := o.d.Sure(s); e == api.OK && bytes.Equal(sure, noise) {
		o.disks(t, func(d *disk.Disk) api.Errno { return d.Tamper(s, was) })
	}
}

// P31.1 to P31.4, P31.7, P3: many requests of some tenants, in many sessions, some of them malformed, picked in any order, with disks that go down, sectors that are turned, and crashes: all is told as by plain lists and the calls below, and the disks are alike.
func TestSteps(t *testing.T) {
	t.Parallel()
	o := &random{refused: map[api.Errno]int{}, picked: map[api.Errno]int{}, told: map[api.Errno]int{}, crashed: map[api.Errno]int{}}
	for seed := range uint64(12) {
		o.bed, o.chance = fresh(t, 120), rand.New(rand.NewPCG(seed, 31))
		for range 2500 {
			o.step(t)
		}
		o.wantTwin(t)
	}
	for _, x := range []struct {
		told   map[api.Errno]int
		wanted []api.Errno
	}{
		{o.refused, []api.Errno{api.OK, api.ErrRequest, api.ErrNone, api.ErrTenant, api.ErrBusy, api.ErrDown}},
		{o.picked, []api.Errno{api.OK, api.ErrArg, api.ErrNone, api.ErrDown}},
		{o.told, []api.Errno{api.OK, api.ErrArg, api.ErrNone, api.ErrFull, api.ErrDown, api.ErrKey, api.ErrTenant, api.ErrVolume, api.ErrThere, api.ErrQuota, api.ErrPool, api.ErrBlock}},
		{o.crashed, []api.Errno{api.OK, api.ErrIntegrity}},
	} {
		for _, e := range x.wanted {
			if x.told[e] < 3 {
				t.Errorf("%v was told %d times of %v", e, x.told[e], x.told)
			}
		}
	}
}
