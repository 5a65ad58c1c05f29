package extent_test

import (
	"math"
	"testing"

	"casemate/api"
	"casemate/extent"
)

// wantNoAdmit fails if a tenant is admitted, or is told otherwise why not.
func wantNoAdmit(t *testing.T, f *extent.Field, tenant, reserve, quota int, want api.Errno) {
	t.Helper()
	before := look(f)
	if e := f.Admit(tenant, reserve, quota); e != want {
		t.Fatalf("Admit(%d, %d, %d): %v, want %v", tenant, reserve, quota, e, want)
	}
	wantState(t, f, before)
}

// wantNoResize fails if a tenant's limits are changed, or if it is told otherwise why not.
func wantNoResize(t *testing.T, f *extent.Field, tenant, reserve, quota int, want api.Errno) {
	t.Helper()
	before := look(f)
	if e := f.Resize(tenant, reserve, quota); e != want {
		t.Fatalf("Resize(%d, %d, %d): %v, want %v", tenant, reserve, quota, e, want)
	}
	wantState(t, f, before)
}

// wantNoRemove fails if a tenant is removed, or is told otherwise why not.
func wantNoRemove(t *testing.T, f *extent.Field, tenant int, want api.Errno) {
	t.Helper()
	before := look(f)
	if e := f.Remove(tenant); e != want {
		t.Fatalf("Remove(%d): %v, want %v", tenant, e, want)
	}
	wantState(t, f, before)
}

// resize changes limits that may be changed, and fails if anything else is changed.
func resize(t *testing.T, f *extent.Field, tenant, reserve, quota int) {
	t.Helper()
	want := look(f)
	a := &want.tenants[tenant]
	want.slack += max(a.reserve, a.charge) - max(reserve, a.charge)
	a.reserve, a.quota = reserve, quota
	if e := f.Resize(tenant, reserve, quota); e != api.OK {
		t.Fatalf("Resize(%d, %d, %d): %v", tenant, reserve, quota, e)
	}
	wantState(t, f, want)
}

// noLimits is reserves and quotas that no tenant of a field of that size may have.
func noLimits(size int) [][2]int {
	return [][2]int{
		{-1, 0}, {-1, size}, {-1, -1}, {math.MinInt, 0}, {math.MinInt, math.MinInt}, {-1, size + 1},
		{1, 0}, {size, size - 1}, {0, -1}, {size + 1, size}, {math.MaxInt, 0}, {math.MaxInt, math.MinInt},
		{0, size + 1}, {size, size + 1}, {size + 1, size + 1}, {0, math.MaxInt}, {math.MaxInt, math.MaxInt},
	}
}

// P17.2: the chapter's example.
func TestExample(t *testing.T) {
	f := made(t, 10)
	admit(t, f, 1, 4, 6)
	wantNoAdmit(t, f, 2, 7, 7, api.ErrPool)
	wantSlack(t, f, 6)
}

// P17.2: each tenant that may be, with the least limits and with the greatest ones, and no other one is.
func TestAdmit(t *testing.T) {
	for _, size := range []int{1, 5, api.MaxExtents} {
		for tenant := 1; tenant <= api.MaxTenants; tenant++ {
			for _, l := range [][2]int{{0, 0}, {0, 1}, {1, 1}, {0, size}, {size, size}} {
				f := made(t, size)
				admit(t, f, tenant, l[0], l[1])
				want := state{size: size, slack: size - l[0], times: make([]int, size)}
				want.tenants[tenant] = account{l[0], l[1], 0, true}
				wantState(t, f, want)
				for _, other := range noTenants() {
					if r, q, ok := f.Limits(other); r != 0 || q != 0 || ok {
						t.Fatalf("Limits(%d): %d %d %v", other, r, q, ok)
					}
				}
			}
		}
	}
}

// P17.2: tenants and limits that may not be, ahead of one that is admitted, ahead of Slack.
func TestAdmitWrong(t *testing.T) {
	for _, size := range []int{1, 5, api.MaxExtents} {
		f := made(t, size)
		admit(t, f, 2, size, size)
		for _, tenant := range noTenants() {
			for _, l := range append(noLimits(size), [][2]int{{0, 0}, {1, 1}, {size, size}}...) {
				wantNoAdmit(t, f, tenant, l[0], l[1], api.ErrArg)
			}
		}
		for _, tenant := range []int{1, 2, api.MaxTenants} {
			for _, l := range noLimits(size) {
				wantNoAdmit(t, f, tenant, l[0], l[1], api.ErrArg)
			}
		}
		for _, l := range [][2]int{{0, 0}, {1, 1}, {size, size}} {
			wantNoAdmit(t, f, 2, l[0], l[1], api.ErrThere)
		}
		wantNoAdmit(t, f, 1, 1, size, api.ErrPool)
		admit(t, f, 1, 0, size)
		wantSlack(t, f, 0)
	}
}

// P17.2: reserves up to Slack, which is less by charges that pass reserves, and by no others.
func TestAdmitUpToSlack(t *testing.T) {
	f := made(t, 10)
	admit(t, f, 1, 2, 8)
	admit(t, f, 2, 1, 1)
	take(t, f, 1, 0, 1)
	take(t, f, 2, 2)
	wantSlack(t, f, 7)
	take(t, f, 1, 3, 4, 5)
	wantSlack(t, f, 4)
	wantNoAdmit(t, f, 3, 5, 5, api.ErrPool)
	wantNoAdmit(t, f, 3, 10, 10, api.ErrPool)
	admit(t, f, 3, 4, 10)
	wantSlack(t, f, 0)
	wantNoAdmit(t, f, 4, 1, 1, api.ErrPool)
	admit(t, f, 4, 0, 10)
	drop(t, f, 1, 0)
	wantNoAdmit(t, f, 5, 2, 2, api.ErrPool)
	admit(t, f, 5, 1, 1)
}

// P17.2: limits up and down, with a charge that they are above, at or below.
func TestResize(t *testing.T) {
	f := made(t, 10)
	admit(t, f, 1, 2, 4)
	admit(t, f, 2, 3, 5)
	resize(t, f, 1, 2, 4)
	resize(t, f, 1, 7, 7)
	wantSlack(t, f, 0)
	resize(t, f, 1, 7, 10)
	resize(t, f, 1, 0, 10)
	wantSlack(t, f, 7)
	take(t, f, 1, 0, 1, 2, 3)
	for _, l := range [][2]int{{0, 4}, {4, 4}, {0, 10}, {4, 9}, {5, 5}, {7, 7}, {3, 4}, {6, 6}} {
		resize(t, f, 1, l[0], l[1])
	}
	take(t, f, 1, 4, 5)
	wantNoTake(t, f, 1, api.ErrQuota)
	resize(t, f, 1, 0, 7)
	take(t, f, 1, 6)
	wantSlack(t, f, 0)
	resize(t, f, 1, 7, 10)
	resize(t, f, 1, 1, 10)
	resize(t, f, 2, 0, 0)
	wantSlack(t, f, 3)
	wantNoTake(t, f, 2, api.ErrQuota)
	resize(t, f, 2, 3, 3)
	take(t, f, 2, 7, 8, 9)
	resize(t, f, 1, 0, 7)
	resize(t, f, 2, 0, 3)
	wantNoTake(t, f, 1, api.ErrQuota)
	resize(t, f, 1, 0, 10)
	wantNoTake(t, f, 1, api.ErrPool)
}

// P17.2: what may not be, ahead of who is not admitted, ahead of charges, ahead of Slack.
func TestResizeWrong(t *testing.T) {
	f := made(t, 10)
	admit(t, f, 1, 1, 6)
	admit(t, f, 2, 3, 5)
	take(t, f, 1, 0, 1, 2)
	for _, tenant := range append(noTenants(), 1, 2, 3, api.MaxTenants) {
		for _, l := range noLimits(10) {
			wantNoResize(t, f, tenant, l[0], l[1], api.ErrArg)
		}
	}
	for _, tenant := range noTenants() {
		wantNoResize(t, f, tenant, 0, 10, api.ErrArg)
	}
	for _, tenant := range []int{3, 7, api.MaxTenants} {
		for _, l := range [][2]int{{0, 0}, {0, 10}, {10, 10}} {
			wantNoResize(t, f, tenant, l[0], l[1], api.ErrTenant)
		}
	}
	for _, l := range [][2]int{{0, 2}, {2, 2}, {0, 0}, {1, 1}} {
		wantNoResize(t, f, 1, l[0], l[1], api.ErrQuota)
	}
	resize(t, f, 1, 0, 3)
	wantSlack(t, f, 4)
	wantNoResize(t, f, 1, 8, 8, api.ErrPool)
	wantNoResize(t, f, 1, 10, 10, api.ErrPool)
	wantNoResize(t, f, 2, 8, 10, api.ErrPool)
	resize(t, f, 2, 7, 7)
	wantNoResize(t, f, 1, 4, 10, api.ErrPool)
	wantNoResize(t, f, 2, 8, 8, api.ErrPool)
	resize(t, f, 1, 3, 10)
	resize(t, f, 1, 0, 10)
	take(t, f, 2, 3, 4)
	wantNoResize(t, f, 2, 0, 1, api.ErrQuota)
	wantNoResize(t, f, 2, 1, 1, api.ErrQuota)
	resize(t, f, 2, 2, 2)
	wantSlack(t, f, 5)
}

// P17.2: a tenant that is removed is as one that never was, and only a tenant without a charge is.
func TestRemove(t *testing.T) {
	f := made(t, 6)
	empty := look(f)
	for _, tenant := range append(noTenants(), 1, 4, api.MaxTenants) {
		wantNoRemove(t, f, tenant, api.ErrTenant)
	}
	admit(t, f, 1, 2, 3)
	admit(t, f, api.MaxTenants, 4, 4)
	wantNoRemove(t, f, 2, api.ErrTenant)
	wantCode(t, "Remove", f.Remove(1), api.OK)
	wantSlack(t, f, 2)
	wantNoRemove(t, f, 1, api.ErrTenant)
	wantNoTake(t, f, 1, api.ErrTenant)
	wantNoResize(t, f, 1, 0, 0, api.ErrTenant)
	admit(t, f, 1, 0, 6)
	take(t, f, 1, 0, 1)
	wantCode(t, "Hold", f.Hold(1), api.OK)
	wantNoRemove(t, f, 1, api.ErrState)
	drop(t, f, 1, 1, 0)
	wantNoRemove(t, f, 1, api.ErrState)
	drop(t, f, 1, 1)
	wantCode(t, "Remove", f.Remove(1), api.OK)
	wantCode(t, "Remove", f.Remove(api.MaxTenants), api.OK)
	wantState(t, f, empty)
	admit(t, f, 3, 6, 6)
	wantCode(t, "Remove", f.Remove(3), api.OK)
	wantState(t, f, empty)
}

// P17.2, P17.3: the extents that a removed tenant took and others dropped stay held, and are charged to these.
func TestRemoveOfDropped(t *testing.T) {
	f := made(t, 4)
	admit(t, f, 1, 0, 2)
	admit(t, f, 2, 0, 2)
	take(t, f, 1, 0)
	take(t, f, 2, 1)
	drop(t, f, 1, 1)
	wantCode(t, "Remove", f.Remove(1), api.OK)
	wantTimes(t, f, 1, 0, 0, 0)
	wantCharges(t, f, 0, 1)
	wantNoDrop(t, f, 1, 0, api.ErrTenant)
	claim(t, f, 2, 0)
	drop(t, f, 2, 0, 0)
	wantCode(t, "Remove", f.Remove(2), api.OK)
	wantSlack(t, f, 4)
}
