package mgr

import (
	"casemate/api"
	"casemate/reply"
	"casemate/req"
	"casemate/task"
)

// Pick picks a lane.
func (m *Manager) Pick(tenant int) (uint64, reply.Reply, bool, api.Errno) {
	if e := m.awake(); e != api.OK {
		return 0, reply.Reply{}, false, e
	}
	if !hasLane(tenant) {
		return 0, reply.Reply{}, false, api.ErrArg
	}
	at := &m.at[tenant-1]
	if *at == nil {
		first, some := m.waits.Take(tenant - 1)
		if !some {
			return 0, reply.Reply{}, false, api.ErrNone
		}
		*at = &first
	}
	ticket := (*at).ticket
	r, ended := m.step(*at)
	if ended {
		*at = nil
	}
	return ticket, r, ended, api.OK
}

// Next picks the next lane that has some.
func (m *Manager) Next() (uint64, reply.Reply, bool, api.Errno) {
	if e := m.awake(); e != api.OK {
		return 0, reply.Reply{}, false, e
	}
	next := 0
around:
	for i := range api.MaxTenants {
		tenant := (m.lastNext+i)%api.MaxTenants + 1
		if m.Waits(tenant) > 0 {
			next = tenant
			break around
		}
	}
	if next == 0 {
		return 0, reply.Reply{}, false, api.ErrNone
	}
	m.lastNext = next
	return m.Pick(next)
}

// step does a step of a job: its reply, if it has ended.
func (m *Manager) step(j *job) (reply.Reply, bool) {
	r := j.request
	s, open := m.sessions[r.Session]
	switch {
	case r.Kind == req.Open:
		return m.open(r), true
	case isOfSession(r.Kind) && !open:
		return reply.Fail(api.ErrNone), true
	case r.Kind == req.Close:
		delete(m.sessions, r.Session)
		return reply.Fail(api.OK), true
	}
	if j.task == nil {
		t, e := task.Start(r)
		if e != api.OK {
			return reply.Fail(e), true
		}
		j.task = t
		j.request = req.Request{Kind: r.Kind, Session: r.Session} // the task has the rest
	}
	if !j.task.Step(m.core, s.view) {
		return reply.Reply{}, false
	}
	return j.task.Reply(), true
}

// open does an Open.
func (m *Manager) open(r req.Request) reply.Reply {
	if len(m.sessions) == api.MaxTenants {
		return reply.Fail(api.ErrFull)
	}
	v, e := m.core.Open(r.Tenant, r.Outer)
	if e != api.OK {
		return reply.Fail(e)
	}
	m.lastSession++
	m.sessions[m.lastSession] = session{tenant: r.Tenant, view: v}
	return reply.Reply{Number: m.lastSession}
}
