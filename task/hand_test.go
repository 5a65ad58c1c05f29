package task_test

import (
	"bytes"
	"testing"

	"casemate/api"
	"casemate/core"
	"casemate/reply"
	"casemate/req"
	"casemate/thin"
)

// hand does a request by the calls of the layers below, step by step, with the view of a tenant that there is.
type hand struct {
	r     req.Request
	at    int
	ended bool
	reply reply.Reply
}

func (h *hand) step(c *core.Core, v *thin.View) {
	r := h.r
	block := r.Block + h.at
	var e api.Errno
	switch r.Kind {
	case req.Read:
		var got []byte
		if got, e = v.Read(r.Volume, block); e == api.OK {
			h.reply.Data = append(h.reply.Data, got...)
			h.reply.Number++
		}
	case req.Write:
		if e = v.Write(r.Volume, block, r.Data[512*h.at:512*h.at+512]); e == api.OK {
			h.reply.Number++
		}
	case req.Discard:
		var was bool
		if was, e = v.Discard(r.Volume, block); was {
			h.reply.Number++
		}
	default:
		h.ended, h.reply = true, reply.Reply{E: whole(r, c, v)}
		return
	}
	if e != api.OK {
		h.ended, h.reply = true, reply.Reply{E: e, Number: h.at}
		return
	}
	h.at++
	h.ended = h.at == (&course{r: r}).most()
}

// whole is the error of a request that has to do with no blocks; Status has none here.
func whole(r req.Request, c *core.Core, v *thin.View) api.Errno {
	x := v.Tenant()
	switch r.Kind {
	case req.Create:
		return x.Create(r.Volume, r.Count)
	case req.Remove:
		return x.Remove(r.Volume)
	case req.Resize:
		return x.Resize(r.Volume, r.Count)
	case req.Snapshot:
		return x.Snapshot(r.Volume, r.To)
	case req.Commit:
		return c.Commit(x.ID())
	case req.Abort:
		return c.Abort(x.ID())
	case req.Rotate:
		return c.Rotate(x.ID(), r.Outer, r.Fresh, r.Salt)
	case req.Add:
		return c.Add(r.Tenant, r.Outer, r.Master, r.Salt, r.Reserve, r.Quota)
	case req.Limit:
		return c.Limit(r.Tenant, r.Reserve, r.Quota)
	case req.Shred:
		return c.Shred(r.Tenant)
	}
	return api.OK
}

// wantTwin fails if two beds to which the same was done are unlike, by any sector or by what their cores tell.
func wantTwin(t *testing.T, a, b *bed) {
	t.Helper()
	wantAlike(t, a.mark(), b.mark())
	if x, y := a.d.Waits(), b.d.Waits(); x != y {
		t.Fatalf("%d and %d writes wait", x, y)
	}
	up(t, a.d)
	up(t, b.d)
	x, _ := a.d.Reg()
	y, _ := b.d.Reg()
	if x != y {
		t.Fatal("the registers are unlike")
	}
	for s := range uint32(a.d.Size()) {
		x, _ := a.d.Read(s)
		y, _ := b.d.Read(s)
		if !bytes.Equal(x, y) {
			t.Fatalf("the sector %d is unlike", s)
		}
	}
}
