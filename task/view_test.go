package task_test

import (
	"testing"

	"casemate/api"
	"casemate/core"
	"casemate/disk"
	"casemate/hashlog"
	"casemate/keys"
	"casemate/pool"
	"casemate/reply"
	"casemate/req"
	"casemate/shadow"
	"casemate/tenant"
	"casemate/thin"
)

// pair is a core and a view with which a task is done.
type pair struct {
	what string
	c    *core.Core
	v    *thin.View
}

// strange is a view of a tenant of a number that no core has.
func strange(t *testing.T, id int) *thin.View {
	t.Helper()
	d, e := disk.New(100)
	wantCode(t, "disk.New", e, api.OK)
	s, e := shadow.New(d, 0, 50, hashlog.New())
	wantCode(t, "shadow.New", e, api.OK)
	p, e := pool.New(d, 50, 50, hashlog.New())
	wantCode(t, "pool.New", e, api.OK)
	wantCode(t, "Admit", p.Field().Admit(id, 0, 50), api.OK)
	x, e := tenant.New(id, s, p)
	wantCode(t, "tenant.New", e, api.OK)
	wantCode(t, "Create", x.Create(2, 20), api.OK)
	counter, e := keys.Count(9)
	wantCode(t, "Count", e, api.OK)
	v, e := thin.New(x, p, keyOf(1), counter)
	wantCode(t, "thin.New", e, api.OK)
	return v
}

// apart is cores with views whose tenant they have not, or not as that one. The first core has the tenants 1 and 2.
func apart(t *testing.T, b *bed) []pair {
	t.Helper()
	other := peopled(t)
	gone, anew, freed := peopled(t), peopled(t), peopled(t)
	wantCode(t, "Shred", gone.c.Shred(1), api.OK)
	wantCode(t, "Shred", anew.c.Shred(1), api.OK)
	old := anew.l[1].v
	anew.add(t, 1, 5, 60).create(t, 2, 20)
	wantCode(t, "Free", freed.l[1].tenant().Free(), api.OK)
	again, e := core.Mount(b.d, hashlog.New())
	wantCode(t, "Mount", e, api.OK)
	return []pair{
		{"nothing", nil, nil},
		{"a core and no view", b.c, nil},
		{"a core and a view that no call made", b.c, &thin.View{}},
		{"no core", nil, b.l[1].v},
		{"a core that no call made", &core.Core{}, b.l[1].v},
		{"what no call made", &core.Core{}, &thin.View{}},
		{"no core, and a view that no call made", nil, &thin.View{}},
		{"another core's view", b.c, other.l[1].v},
		{"another core", other.c, b.l[1].v},
		{"another core of the same disk", again, b.l[1].v},
		{"a tenant that was shredded", gone.c, gone.l[1].v},
		{"a tenant that was added anew", anew.c, old},
		{"a tenant that was freed", freed.c, freed.l[1].v},
		{"a tenant that was made by hand", b.c, strange(t, 1)},
		{"a tenant of another number", b.c, strange(t, 7)},
	}
}

// P30.2: a view whose tenant the core has not, or has no more, under its number, or has as another one: each request of a session ends with ErrTenant alone, at its first step, and does nothing.
func TestNoTenant(t *testing.T) {
	b := peopled(t)
	for _, p := range apart(t, b) {
		for kind, r := range each() {
			if !isOfSession(r) {
				continue
			}
			k := started(t, r)
			b.wantStill(t, func() {
				if !k.Step(p.c, p.v) {
					t.Fatalf("%s: a task of the kind %d goes on", p.what, kind)
				}
			})
			wantEnded(t, k, 1, k.Most(), reply.Reply{E: api.ErrTenant})
			b.wantIdle(t, k, b.l[1].v)
		}
	}
	b.want(t)
}

// P30.2: Add, Limit and Shred are of no view, so they are done with any; without a core they end with ErrNil.
func TestOfNoSession(t *testing.T) {
	for _, v := range []*thin.View{nil, {}, strange(t, 1), peopled(t).l[1].v} {
		b := peopled(t)
		for _, kind := range []int{req.Add, req.Limit, req.Shred} {
			r := each()[kind]
			for _, c := range []*core.Core{nil, {}} {
				k := started(t, r)
				b.wantStill(t, func() { k.Step(c, v) })
				wantEnded(t, k, 1, 1, reply.Reply{E: api.ErrNil})
			}
			wantReply(t, "a request of no session", b.run(t, r, v), reply.Reply{})
		}
		if reserve, quota, there := b.c.Field().Limits(1); !there || reserve != 6 || quota != 50 {
			t.Errorf("the limits: %d, %d, %v", reserve, quota, there)
		}
		if _, e := b.c.Tenant(2); e != api.ErrTenant {
			t.Errorf("Tenant: %v", e)
		}
		if _, e := b.c.Open(3, keyOf(3)); e != api.OK {
			t.Errorf("Open: %v", e)
		}
	}
}

// P30.2: at each step the view's tenant is asked for anew: where it has gone between two blocks, the task ends with ErrTenant alone, and what was done stays.
func TestTenantGone(t *testing.T) {
	for ahead := 1; ahead <= 3; ahead++ {
		b := peopled(t)
		u := b.l[1]
		for _, p := range apart(t, b) {
			for _, o := range []*course{readOf(2, 3, 4), b.writeOf(2, 3, 4), discardOf(2, 3, 4)} {
				k := started(t, o.r)
				o.steps(u.working, ahead)
				for range ahead {
					k.Step(b.c, u.v)
				}
				wantOpen(t, k, ahead, 4)
				b.wantStill(t, func() { k.Step(p.c, p.v) })
				wantEnded(t, k, ahead+1, 4, reply.Reply{E: api.ErrTenant})
				b.wantIdle(t, k, u.v)
			}
		}
		b.want(t)
	}
}

// P30.2: a task goes on with another view of the same tenant, and with one of another tenant of the core does what is asked there.
func TestOtherViews(t *testing.T) {
	b := peopled(t)
	u, w := b.l[1], b.l[2]
	for _, o := range []*course{b.writeOf(1, 0, 4), readOf(1, 0, 4), discardOf(1, 0, 4)} {
		k := started(t, o.r)
		for step := range 4 {
			v, at := b.open(t, u), u
			if step == 2 {
				v, at = w.v, w
			}
			o.step(at.working)
			if k.Step(b.c, v) != (step == 3) {
				t.Fatalf("the step %d", step)
			}
		}
		wantEnded(t, k, 4, 4, o.reply)
		b.want(t)
	}
}
