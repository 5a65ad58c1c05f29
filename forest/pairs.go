package forest

import (
	"math"

	"casemate/api"
	"casemate/entry"
	"casemate/mtree"
)

// kept is what a forest keeps of a tenant.
type kept struct {
	number int
	root   entry.Root
	tenant entry.Tenant
}

// row is the keys of a tenant: under the first one stands its Root, and under the last one, which is the next, its Tenant.
func row(tenant int) (first, last uint64, e api.Errno) {
	first, e = entry.TenantKey(tenant)
	if e != api.OK {
		return 0, 0, e
	}
	return first, first + 1, api.OK
}

// all is what is kept of all tenants.
func (f *Forest) all() ([]kept, api.Errno) {
	return f.some(0, math.MaxUint64)
}

// some is what is kept of the tenants whose keys are from from on to to, rising, if what stands there may.
func (f *Forest) some(from, to uint64) ([]kept, api.Errno) {
	l, e := f.Range(from, to, math.MaxInt)
	if e != api.OK {
		return nil, e
	}
	var out []kept
	for ; len(l) > 1; l = l[2:] {
		k, e := read(l[0], l[1])
		if e != api.OK {
			return nil, e
		}
		out = append(out, k)
	}
	if len(l) > 0 { // one of both alone
		return nil, api.ErrIntegrity
	}
	return out, api.OK
}

// read is what two pairs keep of a tenant, if they are both of one.
func read(a, b mtree.Pair) (kept, api.Errno) {
	number := tenantOf(a.Key)
	first, last, e := row(number)
	if e != api.OK || a.Key != first || b.Key != last {
		return kept{}, api.ErrIntegrity
	}
	root, e := entry.ReadRoot(a.Val)
	if e != api.OK {
		return kept{}, api.ErrIntegrity
	}
	tenant, e := entry.ReadTenant(b.Val)
	if e != api.OK {
		return kept{}, api.ErrIntegrity
	}
	return kept{number, root, tenant}, api.OK
}

// tenantOf is the tenant of a key, if it is any's: a tenant has two.
func tenantOf(key uint64) int {
	return int(key / 2)
}
