package mgr_test

import (
	"slices"

	"casemate/api"
	"casemate/core"
	"casemate/disk"
	"casemate/hashlog"
	"casemate/reply"
	"casemate/req"
	"casemate/task"
	"casemate/thin"
)

// answer is what a pick tells.
type answer struct {
	ticket uint64
	r      reply.Reply
	ended  bool
	e      api.Errno
}

// asked is a request in a plain lane.
type asked struct {
	ticket uint64
	r      req.Request
	begun  bool
	k      *task.Task
}

// seat is a session.
type seat struct {
	number, id int
	v          *thin.View
}

// plain is what a manager should be: lists, and the calls below, on a disk of its own.
type plain struct {
	d        *disk.Disk
	log      *hashlog.Log
	c        *core.Core // nil where it is down
	lanes    [9][]*asked
	seats    []seat
	sessions int
	tickets  uint64
	last     int
}

// seat is the place of a session, or -1.
func (p *plain) seat(number int) int {
	return slices.IndexFunc(p.seats, func(s seat) bool { return s.number == number })
}

// lane is the number of a request's lane.
func (p *plain) lane(r req.Request) (int, api.Errno) {
	if r.Kind == req.Open || r.Kind >= req.Add {
		if r.Tenant == 0 || r.Tenant > 8 {
			return 0, api.ErrTenant
		}
		return r.Tenant, api.OK
	}
	i := p.seat(r.Session)
	if i < 0 {
		return 0, api.ErrNone
	}
	return p.seats[i].id, api.OK
}

func (p *plain) submit(b []byte) (uint64, api.Errno) {
	if p.c == nil {
		return 0, api.ErrDown
	}
	r, e := req.Decode(b)
	if e != api.OK {
		return 0, e
	}
	id, e := p.lane(r)
	if e != api.OK {
		return 0, e
	}
	waits := 0
	for _, a := range p.lanes[id] {
		if !a.begun {
			waits++
		}
	}
	if waits == 8 {
		return 0, api.ErrBusy
	}
	p.tickets++
	p.lanes[id] = append(p.lanes[id], &asked{ticket: p.tickets, r: r})
	return p.tickets, api.OK
}

func (p *plain) pick(id int) answer {
	switch {
	case p.c == nil:
		return answer{e: api.ErrDown}
	case id < 1 || id > 8:
		return answer{e: api.ErrArg}
	case len(p.lanes[id]) == 0:
		return answer{e: api.ErrNone}
	}
	a := p.lanes[id][0]
	a.begun = true
	r, ended := p.step(a)
	if ended {
		p.lanes[id] = p.lanes[id][1:]
	}
	return answer{ticket: a.ticket, r: r, ended: ended}
}

func (p *plain) next() answer {
	if p.c == nil {
		return answer{e: api.ErrDown}
	}
	order := append([]int{1, 2, 3, 4, 5, 6, 7, 8}, 1, 2, 3, 4, 5, 6, 7, 8)[p.last:]
	for _, id := range order {
		if len(p.lanes[id]) > 0 {
			p.last = id
			return p.pick(id)
		}
	}
	return answer{e: api.ErrNone}
}

func (p *plain) step(a *asked) (reply.Reply, bool) {
	i := p.seat(a.r.Session)
	var v *thin.View
	if i >= 0 {
		v = p.seats[i].v
	}
	switch {
	case a.r.Kind == req.Open && len(p.seats) == 8:
		return reply.Reply{E: api.ErrFull}, true
	case a.r.Kind == req.Open:
		v, e := p.c.Open(a.r.Tenant, a.r.Outer)
		if e != api.OK {
			return reply.Reply{E: e}, true
		}
		p.sessions++
		p.seats = append(p.seats, seat{p.sessions, a.r.Tenant, v})
		return reply.Reply{Number: p.sessions}, true
	case a.r.Kind < req.Add && i < 0:
		return reply.Reply{E: api.ErrNone}, true
	case a.r.Kind == req.Close:
		p.seats = slices.Delete(p.seats, i, i+1)
		return reply.Reply{}, true
	}
	if a.k == nil {
		a.k, _ = task.Start(a.r)
	}
	if a.k.Step(p.c, v) {
		return a.k.Reply(), true
	}
	return reply.Reply{}, false
}

func (p *plain) crash(keep []byte) api.Errno {
	p.lanes, p.seats = [9][]*asked{}, nil
	p.d.Crash(keep)
	var e api.Errno
	p.c, e = core.Mount(p.d, p.log)
	return e
}
