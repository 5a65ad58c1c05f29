package task

import (
	"slices"

	"casemate/api"
	"casemate/core"
	"casemate/reply"
	"casemate/req"
	"casemate/tenant"
	"casemate/thin"
)

// tenantOf is a view's tenant, if the core has just that one; else nil.
func tenantOf(c *core.Core, v *thin.View) *tenant.Tenant {
	x := v.Tenant()
	if had, e := c.Tenant(x.ID()); e != api.OK || had != x {
		return nil
	}
	return x
}

// next does what is to be done next: what is to be answered behind it, and whether that is all.
func (t *Task) next(c *core.Core, v *thin.View) (reply.Reply, bool) {
	r := t.request
	var e api.Errno
kind:
	switch r.Kind {
	case req.Add:
		e = c.Add(r.Tenant, r.Outer, r.Master, r.Salt, r.Reserve, r.Quota)
	case req.Limit:
		e = c.Limit(r.Tenant, r.Reserve, r.Quota)
	case req.Shred:
		e = c.Shred(r.Tenant)
	default: // the requests of a session
		x := tenantOf(c, v)
		if x == nil {
			e = api.ErrTenant
			break kind
		}
		switch r.Kind {
		case req.Read, req.Write, req.Discard:
			return t.block(v)
		case req.Status:
			return status(c, v), true
		case req.Create:
			e = x.Create(r.Volume, r.Count)
		case req.Remove:
			e = x.Remove(r.Volume)
		case req.Resize:
			e = x.Resize(r.Volume, r.Count)
		case req.Snapshot:
			e = x.Snapshot(r.Volume, r.To)
		case req.Commit:
			e = c.Commit(x.ID())
		case req.Abort:
			e = c.Abort(x.ID())
		case req.Rotate:
			e = c.Rotate(x.ID(), r.Outer, r.Fresh, r.Salt)
		}
	}
	return reply.Fail(e), true
}

// block does the next block of a request. With an error what was answered of the blocks ahead of it is gone, but how many they were.
func (t *Task) block(v *thin.View) (reply.Reply, bool) {
	r, answer := t.request, t.answer
	at := r.Block + t.steps
	counts := true // of Discard those blocks alone that had been written
	var e api.Errno
	switch r.Kind {
	case req.Read:
		var b []byte
		b, e = v.Read(r.Volume, at)
		answer.Data = slices.Concat(answer.Data, b)
	case req.Write:
		from := t.steps * api.Sector
		e = v.Write(r.Volume, at, r.Data[from:from+api.Sector])
	case req.Discard:
		counts, e = v.Discard(r.Volume, at)
	}
	if e != api.OK {
		return reply.Reply{E: e, Number: t.steps}, true
	}
	if counts {
		answer.Number++
	}
	return answer, t.steps+1 == t.most
}
