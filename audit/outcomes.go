package audit

import (
	"casemate/api"
	"casemate/reply"
	"casemate/req"
)

// outcome is a reply that may be, and what was done then.
type outcome struct {
	reply reply.Reply
	do    func()
}

// failed is an error alone; nothing was done then.
func failed(e api.Errno) outcome {
	return outcome{reply.Fail(e), func() {}}
}

// done is OK alone.
func done(do func()) outcome {
	return outcome{reply.Fail(api.OK), do}
}

// outcomes is what may be answered to a request. Where many numbers may be told, it is the one that was.
func (b *Book) outcomes(q req.Request, number int) []outcome {
	switch q.Kind {
	case req.Add:
		return b.add(q)
	case req.Open:
		return b.open(q, number)
	case req.Limit:
		return b.limit(q)
	case req.Shred:
		return b.shred()
	}
	adds, open := b.sessions[q.Session]
	switch {
	case !open:
		return []outcome{failed(api.ErrNone)}
	case q.Kind == req.Close:
		return []outcome{done(func() { delete(b.sessions, q.Session) }), failed(api.ErrIntegrity)}
	case adds != b.adds || !b.there:
		return []outcome{failed(api.ErrTenant), failed(api.ErrIntegrity)}
	}
	return append(b.asked(q, number), failed(api.ErrIntegrity))
}

// add is what may be answered to an Add. How many extents there are is not told to a tenant, nor what others have of them: so any limits may be too great.
func (b *Book) add(q req.Request) []outcome {
	if b.there {
		return []outcome{failed(api.ErrThere)}
	}
	made := done(func() {
		b.there, b.outer, b.quota = true, q.Outer, q.Quota
		b.adds++
	})
	return []outcome{made, failed(api.ErrArg), failed(api.ErrPool)}
}

// open is what may be answered to an Open. Others may have all sessions, whether there is the tenant or not; and an unlike key may open as the outer one does.
func (b *Book) open(q req.Request, number int) []outcome {
	l := []outcome{failed(api.ErrFull), failed(api.ErrIntegrity)}
	if !b.there {
		return append(l, failed(api.ErrTenant))
	}
	if q.Outer != b.outer {
		l = append(l, failed(api.ErrKey))
	}
	if number > b.last {
		l = append(l, outcome{reply.Reply{Number: number}, func() {
			b.last = number
			b.sessions[number] = b.adds
		}})
	}
	return l
}

// limit is what may be answered to a Limit.
func (b *Book) limit(q req.Request) []outcome {
	switch {
	case !b.there:
		return []outcome{failed(api.ErrTenant)}
	case b.Charge() > q.Quota:
		return []outcome{failed(api.ErrQuota)}
	}
	return []outcome{done(func() { b.quota = q.Quota }), failed(api.ErrArg), failed(api.ErrPool)}
}

// shred is what may be answered to a Shred, behind which no block names a write.
func (b *Book) shred() []outcome {
	if !b.there {
		return []outcome{failed(api.ErrTenant)}
	}
	return []outcome{done(func() {
		b.there = false
		b.now, b.kept, b.texts = volumes{}, volumes{}, nil
	})}
}

// asked is what may be answered to a request of a session of the tenant that there is, beside ErrIntegrity alone.
func (b *Book) asked(q req.Request, number int) []outcome {
	switch q.Kind {
	case req.Read, req.Write, req.Discard:
		return b.blocks(q, number)
	case req.Commit:
		return []outcome{done(func() { b.kept = b.now })}
	case req.Abort:
		return []outcome{done(func() { b.now = b.kept })}
	case req.Rotate:
		return b.rotate(q)
	case req.Status:
		return []outcome{b.status()}
	}
	if e := b.now.refusal(q); e != api.OK {
		return []outcome{failed(e)}
	}
	return []outcome{done(func() { b.now.change(q) })}
}

// rotate is what may be answered to a Rotate.
func (b *Book) rotate(q req.Request) []outcome {
	l := []outcome{done(func() { b.outer = q.Fresh })}
	if q.Outer != b.outer {
		l = append(l, failed(api.ErrKey))
	}
	return l
}

// status is what is answered to a Status.
func (b *Book) status() outcome {
	s := reply.Status{Charge: b.Charge(), Reserve: b.quota, Quota: b.quota}
	for i, v := range b.now[1:] {
		s.Blocks[i], s.Used[i] = v.blocks, len(v.writes)
	}
	l, e := reply.WriteStatus(s)
	return outcome{reply.Reply{E: e, Data: l}, func() {}}
}
