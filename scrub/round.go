package scrub

import (
	"casemate/api"
	"casemate/core"
	"casemate/tenant"
)

// Round looks at all volumes.
type Round struct {
	core           *core.Core // nil in a round that no call made
	tenant, volume int        // at which it looked last; 0 ahead of the first step
	seen           Report
}

// New is a round of a core.
func New(c *core.Core) (*Round, api.Errno) {
	if !isMade(c) {
		return nil, api.ErrNil
	}
	return &Round{core: c}, api.OK
}

// Report is what was looked at so far.
func (r *Round) Report() Report {
	if r == nil {
		return Report{}
	}
	return r.seen
}

// Steps is at how many volumes a round looked: each has a step of its own.
func (r *Round) Steps() int {
	return r.Report().Volumes
}

// Step looks at the next volume; was there none?
func (r *Round) Step() (bool, api.Errno) {
	if r == nil || r.core == nil {
		return false, api.ErrNil
	}
	x, volume, e := r.next()
	switch {
	case e != api.OK:
		return false, e
	case x == nil:
		return true, api.OK
	}
	seen, e := look(r.core, x, volume)
	if e != api.OK {
		return false, e
	}
	r.tenant, r.volume = x.ID(), volume
	r.seen.add(seen)
	return false, api.OK
}

// next is the first volume behind the one at which a round looked last, and its tenant; no tenant, if there is no such volume. Tenants that the round has left behind are not asked, whatever became of them.
func (r *Round) next() (*tenant.Tenant, int, api.Errno) {
	var of *tenant.Tenant
	found := 0
	isBehind := func(t, volume int) bool { return t > r.tenant || volume > r.volume }
volumes:
	for _, t := range r.core.Tenants() {
		if t < r.tenant {
			continue volumes
		}
		x, e := r.core.Tenant(t)
		if e != api.OK {
			return nil, 0, e
		}
		l, e := x.Volumes()
		if e != api.OK {
			return nil, 0, e
		}
		for _, volume := range l {
			if isBehind(t, volume) {
				of, found = x, volume
				break volumes
			}
		}
	}
	return of, found, api.OK
}
