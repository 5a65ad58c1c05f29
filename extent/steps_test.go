package extent_test

import (
	"math/rand/v2"
	"testing"

	"casemate/api"
	"casemate/extent"
)

// plain stands for a field: lists alone, counted anew each time.
type plain struct {
	times   []int
	tenants [numbers]account
}

func (p *plain) slack() int {
	n := len(p.times)
	for _, a := range p.tenants {
		n -= max(a.reserve, a.charge)
	}
	return n
}

// state is all that a field should tell.
func (p *plain) state() state {
	return state{size: len(p.times), slack: p.slack(), times: p.times, tenants: p.tenants}
}

// wrong tells whether limits may not be.
func (p *plain) wrong(tenant, reserve, quota int) bool {
	return tenant < 1 || tenant > api.MaxTenants || reserve < 0 || quota < reserve || quota > len(p.times)
}

func (p *plain) admit(tenant, reserve, quota int) api.Errno {
	switch {
	case p.wrong(tenant, reserve, quota):
		return api.ErrArg
	case p.tenants[tenant].admitted:
		return api.ErrThere
	case reserve > p.slack():
		return api.ErrPool
	}
	p.tenants[tenant] = account{reserve, quota, 0, true}
	return api.OK
}

func (p *plain) resize(tenant, reserve, quota int) api.Errno {
	if p.wrong(tenant, reserve, quota) {
		return api.ErrArg
	}
	a := p.tenants[tenant]
	without := *p
	without.tenants[tenant] = account{}
	switch {
	case !a.admitted:
		return api.ErrTenant
	case a.charge > quota:
		return api.ErrQuota
	case without.slack() < max(reserve, a.charge):
		return api.ErrPool
	}
	p.tenants[tenant].reserve, p.tenants[tenant].quota = reserve, quota
	return api.OK
}

func (p *plain) remove(tenant int) api.Errno {
	switch a := p.tenants[tenant]; {
	case !a.admitted:
		return api.ErrTenant
	case a.charge != 0:
		return api.ErrState
	}
	p.tenants[tenant] = account{}
	return api.OK
}

func (p *plain) claim(tenant, n int) api.Errno {
	if n >= len(p.times) {
		return api.ErrArg
	}
	a := &p.tenants[tenant]
	switch {
	case !a.admitted:
		return api.ErrTenant
	case p.times[n] > 0:
		p.times[n]++
		return api.OK
	case a.charge == a.quota:
		return api.ErrQuota
	case a.charge >= a.reserve && p.slack() == 0:
		return api.ErrPool
	}
	p.times[n] = 1
	a.charge++
	return api.OK
}

func (p *plain) take(tenant int) (uint32, api.Errno) {
	first := 0
	for first < len(p.times)-1 && p.times[first] > 0 {
		first++
	}
	if p.tenants[tenant].admitted && p.times[first] > 0 { // none is free, so that nothing may be charged
		if a := p.tenants[tenant]; a.charge == a.quota {
			return 0, api.ErrQuota
		}
		return 0, api.ErrPool
	}
	if e := p.claim(tenant, first); e != api.OK {
		return 0, e
	}
	return uint32(first), api.OK
}

func (p *plain) hold(n int) api.Errno {
	switch {
	case n >= len(p.times):
		return api.ErrArg
	case p.times[n] == 0:
		return api.ErrState
	}
	p.times[n]++
	return api.OK
}

func (p *plain) drop(tenant, n int) api.Errno {
	if n >= len(p.times) {
		return api.ErrArg
	}
	a := &p.tenants[tenant]
	switch {
	case !a.admitted:
		return api.ErrTenant
	case p.times[n] == 0 || a.charge == 0:
		return api.ErrState
	}
	p.times[n]--
	if p.times[n] == 0 {
		a.charge--
	}
	return api.OK
}

// step does one call on both, and is what it told, and what it should.
func step(t *testing.T, f *extent.Field, p *plain, chance *rand.Rand) (got, want api.Errno) {
	t.Helper()
	size := len(p.times)
	tenant, n := chance.IntN(numbers), chance.IntN(size+1)
	reserve, quota := chance.IntN(size/3+2)-1, chance.IntN(size+2)
	switch kind := chance.IntN(40); {
	case kind < 3:
		return f.Admit(tenant, reserve, quota), p.admit(tenant, reserve, quota)
	case kind < 6:
		return f.Resize(tenant, reserve, quota), p.resize(tenant, reserve, quota)
	case kind < 7:
		return f.Remove(tenant), p.remove(tenant)
	case kind < 19:
		one, e := f.Take(tenant)
		other, want := p.take(tenant)
		if one != other {
			t.Fatalf("Take(%d): %d, %v, want %d, %v", tenant, one, e, other, want)
		}
		return e, want
	case kind < 23:
		return f.Claim(tenant, uint32(n)), p.claim(tenant, n)
	case kind < 26:
		return f.Hold(uint32(n)), p.hold(n)
	}
	return f.Drop(tenant, uint32(n)), p.drop(tenant, n)
}

// wantAccounts fails if charges are not as many as extents that are not free, or pass what they may.
func wantAccounts(t *testing.T, f *extent.Field) {
	t.Helper()
	s := look(f)
	for _, times := range s.times {
		if times > 0 {
			s.size--
		}
	}
	for i, a := range s.tenants {
		s.size += a.charge
		if a.charge < 0 || a.charge > a.quota {
			t.Fatalf("the tenant %d is charged %d of %d", i, a.charge, a.quota)
		}
	}
	if s.size != f.Size() || s.slack < 0 {
		t.Fatalf("all charges are %d more than what is not free, Slack is %d", s.size-f.Size(), s.slack)
	}
}

// P17.1 to P17.4: many steps, held against plain lists.
func TestSteps(t *testing.T) {
	told := map[api.Errno]int{}
	for seed := range uint64(80) {
		chance := rand.New(rand.NewPCG(seed, 17))
		size := 1 + chance.IntN(20)
		f, p := made(t, size), &plain{times: make([]int, size)}
		for range 1000 {
			got, want := step(t, f, p, chance)
			wantCode(t, "a step", got, want)
			wantState(t, f, p.state())
			wantAccounts(t, f)
			told[got]++
		}
	}
	for _, e := range []api.Errno{api.OK, api.ErrArg, api.ErrState, api.ErrTenant, api.ErrThere, api.ErrQuota, api.ErrPool} {
		if told[e] < 500 {
			t.Errorf("%v was told %d times", e, told[e])
		}
	}
}

// P17.5: wherever the others stopped, each tenant takes its reserve.
func TestReserves(t *testing.T) {
	below := 0
	for seed := range uint64(60) {
		chance := rand.New(rand.NewPCG(seed, 175))
		size := 8 + chance.IntN(40)
		f, p := made(t, size), &plain{times: make([]int, size)}
		for range 200 {
			step(t, f, p, chance)
		}
		for _, greedy := range chance.Perm(numbers) {
			for e := api.OK; e == api.OK; {
				_, e = f.Take(greedy)
			}
			for tenant := range numbers {
				reserve, quota, ok := f.Limits(tenant)
				if !ok || f.Charge(tenant) >= reserve {
					continue
				}
				below++
				if n, e := f.Take(tenant); e != api.OK {
					t.Fatalf("Take(%d), which has %d of %d to %d: %d, %v", tenant, f.Charge(tenant), reserve, quota, n, e)
				}
			}
			wantAccounts(t, f)
		}
	}
	if below < 60 {
		t.Errorf("%d reserves alone were looked at", below)
	}
}

// owner is a tenant that knows which extents it took, of a field that it may share.
type owner struct {
	f    *extent.Field
	has  []uint32
	told []int
}

// does is one call of the tenant 1 on one of its own extents: what is told goes behind what was. Extents are told by their places among its own, since which one is the first free one hangs on the others.
func (o *owner) does(chance *rand.Rand) {
	reserve, quota, ok := o.f.Limits(1)
	o.told = append(o.told, reserve, quota, o.f.Charge(1))
	if !ok {
		return
	}
	kind, i := chance.IntN(10), chance.IntN(len(o.has)+1)
	if kind < 5 || i == len(o.has) {
		n, e := o.f.Take(1)
		o.told = append(o.told, int(e))
		if e == api.OK {
			o.has = append(o.has, n)
		}
		return
	}
	n := o.has[i]
	switch {
	case kind < 6:
		o.told = append(o.told, int(o.f.Claim(1, n)))
	case kind < 7:
		o.told = append(o.told, int(o.f.Hold(n)))
	default:
		o.told = append(o.told, int(o.f.Drop(1, n)))
	}
	o.told = append(o.told, o.f.Times(n))
	if o.f.Times(n) == 0 {
		o.has = append(o.has[:i], o.has[i+1:]...)
	}
}

// others take all that they get, and drop some of it.
func others(f *extent.Field, took *[]uint32, by *[]int, chance *rand.Rand) {
	for range chance.IntN(12) {
		tenant := 2 + chance.IntN(api.MaxTenants-1)
		f.Admit(tenant, chance.IntN(4), f.Size())
		for range chance.IntN(8) {
			if n, e := f.Take(tenant); e == api.OK {
				*took, *by = append(*took, n), append(*by, tenant)
			}
		}
		f.Resize(tenant, chance.IntN(6), f.Size())
		if last := len(*took) - 1; last >= 0 && chance.IntN(3) == 0 {
			f.Drop((*by)[last], (*took)[last])
			*took, *by = (*took)[:last], (*by)[:last]
		}
	}
}

// P17.6: a tenant whose reserve is its quota is answered beside others that take all as if it were alone.
func TestApart(t *testing.T) {
	refused := 0
	for seed := range uint64(60) {
		size := 20 + int(seed%7)
		alone, beside := &owner{f: made(t, size)}, &owner{f: made(t, size)}
		reserve := int(seed % 12)
		admit(t, alone.f, 1, reserve, reserve)
		admit(t, beside.f, 1, reserve, reserve)
		one, two, third := rand.New(rand.NewPCG(seed, 1)), rand.New(rand.NewPCG(seed, 1)), rand.New(rand.NewPCG(seed, 2))
		var took []uint32
		var by []int
		for range 150 {
			others(beside.f, &took, &by, third)
			alone.does(one)
			beside.does(two)
			if beside.f.Slack() == 0 {
				refused++
			}
		}
		wantSame(t, alone.told, beside.told)
		wantAccounts(t, beside.f)
	}
	if refused < 3000 {
		t.Errorf("of 9000 steps %d alone beside others that had all", refused)
	}
}

func wantSame(t *testing.T, alone, beside []int) {
	t.Helper()
	for i := range alone {
		if i >= len(beside) || alone[i] != beside[i] {
			t.Fatalf("beside others the answer %d is another one than alone, which is %d", i, alone[i])
		}
	}
	if len(alone) != len(beside) {
		t.Fatalf("%d answers beside others, %d alone", len(beside), len(alone))
	}
}
