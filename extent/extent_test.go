package extent_test

import (
	"math"
	"slices"
	"testing"

	"casemate/api"
	"casemate/extent"
)

// account is what is told of a tenant.
type account struct {
	reserve, quota, charge int
	admitted               bool
}

// numbers is how many numbers of tenants are looked at: those that may be, and one beside each end.
const numbers = api.MaxTenants + 2

// state is all that a field tells.
type state struct {
	size, slack int
	times       []int
	tenants     [numbers]account
}

// look is all that a field tells now.
func look(f *extent.Field) state {
	s := state{size: f.Size(), slack: f.Slack()}
	for e := range f.Size() {
		s.times = append(s.times, f.Times(uint32(e)))
	}
	for t := range numbers {
		a := &s.tenants[t]
		a.reserve, a.quota, a.admitted = f.Limits(t)
		a.charge = f.Charge(t)
	}
	return s
}

// wantState fails if a field tells anything else.
func wantState(t *testing.T, f *extent.Field, want state) {
	t.Helper()
	got := look(f)
	if got.size != want.size || got.slack != want.slack || got.tenants != want.tenants || !slices.Equal(got.times, want.times) {
		t.Fatalf("the field tells\n%v, want\n%v", got, want)
	}
}

// made is a field of a size that may be.
func made(t *testing.T, size int) *extent.Field {
	t.Helper()
	f, e := extent.New(size)
	if f == nil || e != api.OK {
		t.Fatalf("New(%d): %v, %v", size, f, e)
	}
	return f
}

func wantCode(t *testing.T, what string, e, want api.Errno) {
	t.Helper()
	if e != want {
		t.Fatalf("%s: %v, want %v", what, e, want)
	}
}

// admit admits a tenant that may be.
func admit(t *testing.T, f *extent.Field, tenant, reserve, quota int) {
	t.Helper()
	wantCode(t, "Admit", f.Admit(tenant, reserve, quota), api.OK)
}

// take takes extents for a tenant, which are just these.
func take(t *testing.T, f *extent.Field, tenant int, want ...uint32) {
	t.Helper()
	for _, w := range want {
		if n, e := f.Take(tenant); n != w || e != api.OK {
			t.Fatalf("Take(%d): %d, %v, want %d", tenant, n, e, w)
		}
	}
}

// wantNoTake fails if a tenant takes one, or is told otherwise why not.
func wantNoTake(t *testing.T, f *extent.Field, tenant int, want api.Errno) {
	t.Helper()
	before := look(f)
	if n, e := f.Take(tenant); n != 0 || e != want {
		t.Fatalf("Take(%d): %d, %v, want %v", tenant, n, e, want)
	}
	wantState(t, f, before)
}

// wantNoClaim fails if a tenant claims an extent, or is told otherwise why not.
func wantNoClaim(t *testing.T, f *extent.Field, tenant int, n uint32, want api.Errno) {
	t.Helper()
	before := look(f)
	if e := f.Claim(tenant, n); e != want {
		t.Fatalf("Claim(%d, %d): %v, want %v", tenant, n, e, want)
	}
	wantState(t, f, before)
}

func claim(t *testing.T, f *extent.Field, tenant int, extents ...uint32) {
	t.Helper()
	for _, n := range extents {
		wantCode(t, "Claim", f.Claim(tenant, n), api.OK)
	}
}

func drop(t *testing.T, f *extent.Field, tenant int, extents ...uint32) {
	t.Helper()
	for _, n := range extents {
		wantCode(t, "Drop", f.Drop(tenant, n), api.OK)
	}
}

// wantNoDrop fails if a tenant drops an extent, or is told otherwise why not.
func wantNoDrop(t *testing.T, f *extent.Field, tenant int, n uint32, want api.Errno) {
	t.Helper()
	before := look(f)
	if e := f.Drop(tenant, n); e != want {
		t.Fatalf("Drop(%d, %d): %v, want %v", tenant, n, e, want)
	}
	wantState(t, f, before)
}

func wantSlack(t *testing.T, f *extent.Field, want int) {
	t.Helper()
	if f.Slack() != want {
		t.Fatalf("Slack: %d, want %d", f.Slack(), want)
	}
}

func wantTimes(t *testing.T, f *extent.Field, want ...int) {
	t.Helper()
	if got := look(f).times; !slices.Equal(got, want) {
		t.Fatalf("Times: %v, want %v", got, want)
	}
}

// wantCharges fails if the tenants from 1 on are not charged so many.
func wantCharges(t *testing.T, f *extent.Field, want ...int) {
	t.Helper()
	for i, w := range want {
		if f.Charge(i+1) != w {
			t.Fatalf("Charge(%d): %d, want %d", i+1, f.Charge(i+1), w)
		}
	}
}

// noTenants is numbers that no tenant may have.
func noTenants() []int {
	return []int{0, -1, -8, api.MaxTenants + 1, api.MaxTenants + 2, 255, 257, math.MaxInt32, math.MinInt32, math.MaxInt, math.MinInt}
}

// noExtents is extents that a field of that size has not.
func noExtents(size int) []uint32 {
	return []uint32{uint32(size), uint32(size) + 1, api.MaxExtents, api.MaxExtents + 1, api.MaxSectors, math.MaxInt32, math.MaxInt32 + 1, math.MaxUint32 - 1, math.MaxUint32}
}

// P17.1: sizes that may be, at both edges: a field without tenants, all free; and those that may not.
func TestSizes(t *testing.T) {
	for _, size := range []int{1, 2, 63, 64, 65, 1000, api.MaxExtents - 1, api.MaxExtents} {
		f := made(t, size)
		wantState(t, f, state{size: size, slack: size, times: make([]int, size)})
		for _, tenant := range noTenants() {
			if r, q, ok := f.Limits(tenant); r != 0 || q != 0 || ok || f.Charge(tenant) != 0 {
				t.Errorf("the tenant %d: %d %d %v %d", tenant, r, q, ok, f.Charge(tenant))
			}
		}
		for _, n := range noExtents(size) {
			if f.Times(n) != 0 {
				t.Errorf("Times(%d) of %d: %d", n, size, f.Times(n))
			}
		}
	}
	for _, size := range []int{0, -1, -2, api.MaxExtents + 1, api.MaxSectors, api.MaxSectors + 1, math.MaxInt32, math.MinInt32, math.MaxInt, math.MinInt} {
		if f, e := extent.New(size); f != nil || e != api.ErrArg {
			t.Errorf("New(%d): %v, %v", size, f, e)
		}
	}
}

// P17.1: of nil, or a field that no call made.
func TestNoField(t *testing.T) {
	for _, f := range []*extent.Field{nil, {}, new(extent.Field)} {
		for range 2 {
			for _, tenant := range append(noTenants(), 1, 2, api.MaxTenants) {
				for _, n := range append(noExtents(1), 0) {
					wantCode(t, "Claim", f.Claim(tenant, n), api.ErrNil)
					wantCode(t, "Hold", f.Hold(n), api.ErrNil)
					wantCode(t, "Drop", f.Drop(tenant, n), api.ErrNil)
					if f.Times(n) != 0 {
						t.Errorf("Times(%d): %d", n, f.Times(n))
					}
				}
				for _, l := range [][2]int{{0, 0}, {0, 1}, {1, 1}, {-1, 1}, {2, 1}, {math.MinInt, math.MaxInt}} {
					wantCode(t, "Admit", f.Admit(tenant, l[0], l[1]), api.ErrNil)
					wantCode(t, "Resize", f.Resize(tenant, l[0], l[1]), api.ErrNil)
				}
				wantCode(t, "Remove", f.Remove(tenant), api.ErrNil)
				wantNoTake(t, f, tenant, api.ErrNil)
			}
			wantState(t, f, state{})
		}
	}
}

// P17.3: the first free extent is taken, held once and charged, till the quota.
func TestTake(t *testing.T) {
	f := made(t, 6)
	admit(t, f, 1, 0, 3)
	admit(t, f, 8, 2, 2)
	take(t, f, 1, 0)
	take(t, f, 8, 1)
	take(t, f, 1, 2)
	wantTimes(t, f, 1, 1, 1, 0, 0, 0)
	wantCharges(t, f, 2, 0, 0, 0, 0, 0, 0, 1)
	drop(t, f, 1, 0)
	drop(t, f, 8, 1)
	take(t, f, 8, 0, 1)
	wantNoTake(t, f, 8, api.ErrQuota)
	take(t, f, 1, 3, 4)
	wantNoTake(t, f, 1, api.ErrQuota)
	wantTimes(t, f, 1, 1, 1, 1, 1, 0)
	wantCharges(t, f, 3, 0, 0, 0, 0, 0, 0, 2)
	wantSlack(t, f, 1)
}

// P17.3: who is not admitted takes nothing.
func TestTakeOfNobody(t *testing.T) {
	f := made(t, 3)
	admit(t, f, 2, 1, 3)
	for _, tenant := range append(noTenants(), 1, 3, api.MaxTenants) {
		wantNoTake(t, f, tenant, api.ErrTenant)
	}
	take(t, f, 2, 0, 1, 2)
	wantNoTake(t, f, 1, api.ErrTenant)
}

// P17.3: below the reserve and at it, while Slack is 0 and while it is not; the quota is told ahead of Slack.
func TestTakeAtReserve(t *testing.T) {
	f := made(t, 7)
	admit(t, f, 1, 2, 7)
	admit(t, f, 2, 0, 7)
	admit(t, f, 3, 3, 3)
	take(t, f, 2, 0, 1)
	wantSlack(t, f, 0)
	wantNoTake(t, f, 2, api.ErrPool)
	take(t, f, 1, 2, 3)
	wantSlack(t, f, 0)
	wantNoTake(t, f, 1, api.ErrPool)
	take(t, f, 3, 4, 5, 6)
	wantNoTake(t, f, 3, api.ErrQuota)
	drop(t, f, 3, 5)
	wantSlack(t, f, 0)
	wantNoTake(t, f, 1, api.ErrPool)
	wantNoTake(t, f, 2, api.ErrPool)
	drop(t, f, 2, 1)
	wantSlack(t, f, 1)
	take(t, f, 1, 1)
	wantNoTake(t, f, 2, api.ErrPool)
	wantCharges(t, f, 3, 1, 2)
}

// P17.3: all that there are, by one, and by eight.
func TestTakeAll(t *testing.T) {
	f := made(t, api.MaxExtents)
	admit(t, f, 5, 0, api.MaxExtents)
	for n := range api.MaxExtents {
		wantSlack(t, f, api.MaxExtents-n)
		take(t, f, 5, uint32(n))
	}
	wantNoTake(t, f, 5, api.ErrQuota)
	wantNoClaim(t, f, 4, 7, api.ErrTenant)
	drop(t, f, 5, 2047, 1000)
	take(t, f, 5, 1000, 2047)

	f = made(t, 19)
	for tenant := 1; tenant <= api.MaxTenants; tenant++ {
		admit(t, f, tenant, 2, 19)
	}
	for n := range 19 {
		if n < 16 {
			take(t, f, n%8+1, uint32(n))
		} else {
			take(t, f, 6, uint32(n))
		}
	}
	wantCharges(t, f, 2, 2, 2, 2, 2, 5, 2, 2)
	for tenant := 1; tenant <= api.MaxTenants; tenant++ {
		wantNoTake(t, f, tenant, api.ErrPool)
	}
}

// P17.3: extents that are there, and free, are claimed as they are taken, whichever is named.
func TestClaim(t *testing.T) {
	f := made(t, 5)
	admit(t, f, 1, 1, 3)
	admit(t, f, 2, 2, 2)
	claim(t, f, 1, 4, 0)
	wantTimes(t, f, 1, 0, 0, 0, 1)
	wantCharges(t, f, 2, 0)
	take(t, f, 1, 1)
	wantSlack(t, f, 0)
	wantNoClaim(t, f, 1, 2, api.ErrQuota)
	claim(t, f, 2, 3, 2)
	wantNoTake(t, f, 2, api.ErrQuota)
	wantTimes(t, f, 1, 1, 1, 1, 1)
	wantCharges(t, f, 3, 2)
}

// P17.3: what is held is held once more, and charged to nobody, whoever claims it, and whatever he has.
func TestClaimOfHeld(t *testing.T) {
	f := made(t, 3)
	admit(t, f, 1, 1, 3)
	admit(t, f, 2, 0, 0)
	admit(t, f, 3, 1, 1)
	take(t, f, 1, 0, 1)
	claim(t, f, 1, 0)
	claim(t, f, 2, 0, 0, 1)
	claim(t, f, 3, 1)
	wantTimes(t, f, 4, 3, 0)
	wantCharges(t, f, 2, 0, 0)
	wantSlack(t, f, 0)
	claim(t, f, 1, 1) // Slack is 0
	claim(t, f, 3, 2)
	claim(t, f, 3, 2) // and the charge is the quota
	wantTimes(t, f, 4, 4, 2)
	wantCharges(t, f, 2, 0, 1)
}

// P17.3: extents that are not there, ahead of tenants that are not; these ahead of the quota, that ahead of Slack.
func TestClaimWrong(t *testing.T) {
	f := made(t, 4)
	admit(t, f, 1, 0, 4)
	admit(t, f, 2, 1, 1)
	admit(t, f, 3, 1, 1)
	take(t, f, 1, 0)
	take(t, f, 2, 1)
	take(t, f, 1, 2)
	for _, tenant := range append(noTenants(), 1, 2, 4, api.MaxTenants) {
		for _, n := range noExtents(4) {
			wantNoClaim(t, f, tenant, n, api.ErrArg)
		}
	}
	for _, tenant := range append(noTenants(), 4, api.MaxTenants) {
		for n := range 4 {
			wantNoClaim(t, f, tenant, uint32(n), api.ErrTenant)
		}
	}
	wantSlack(t, f, 0)
	wantNoClaim(t, f, 1, 3, api.ErrPool)
	wantNoClaim(t, f, 2, 3, api.ErrQuota)
	claim(t, f, 3, 3)
}

// P17.3: what is held is held once more, and charged to nobody.
func TestHold(t *testing.T) {
	f := made(t, 3)
	admit(t, f, 1, 0, 2)
	take(t, f, 1, 0, 1)
	for range 3 {
		wantCode(t, "Hold", f.Hold(1), api.OK)
	}
	wantTimes(t, f, 1, 4, 0)
	wantCharges(t, f, 2)
	wantSlack(t, f, 1)
	before := look(f)
	for _, n := range noExtents(3) {
		wantCode(t, "Hold", f.Hold(n), api.ErrArg)
	}
	wantCode(t, "Hold of a free one", f.Hold(2), api.ErrState)
	wantState(t, f, before)
	drop(t, f, 1, 0)
	wantCode(t, "Hold of one that is free again", f.Hold(0), api.ErrState)
	wantTimes(t, f, 0, 4, 0)
}

// P17.3: what is held many times is charged till it is dropped as often.
func TestDrop(t *testing.T) {
	f := made(t, 3)
	admit(t, f, 1, 1, 3)
	take(t, f, 1, 0, 1)
	claim(t, f, 1, 1)
	wantCode(t, "Hold", f.Hold(1), api.OK)
	for left := 2; left > 0; left-- {
		drop(t, f, 1, 1)
		wantTimes(t, f, 1, left, 0)
		wantCharges(t, f, 2)
		wantSlack(t, f, 1)
	}
	drop(t, f, 1, 1)
	wantTimes(t, f, 1, 0, 0)
	wantCharges(t, f, 1)
	wantSlack(t, f, 2)
	wantNoDrop(t, f, 1, 1, api.ErrState)
	drop(t, f, 1, 0)
	wantSlack(t, f, 2) // one of which is the reserve again
	wantNoDrop(t, f, 1, 0, api.ErrState)
	wantState(t, f, state{size: 3, slack: 2, times: make([]int, 3), tenants: [numbers]account{1: {1, 3, 0, true}}})
}

// P17.3: extents that are not there, ahead of tenants that are not, ahead of what is free, or not charged.
func TestDropWrong(t *testing.T) {
	f := made(t, 3)
	admit(t, f, 1, 0, 3)
	admit(t, f, 2, 1, 1)
	take(t, f, 1, 0)
	wantCode(t, "Hold", f.Hold(0), api.OK)
	for _, tenant := range append(noTenants(), 1, 2, 3, api.MaxTenants) {
		for _, n := range noExtents(3) {
			wantNoDrop(t, f, tenant, n, api.ErrArg)
		}
	}
	for _, tenant := range append(noTenants(), 3, api.MaxTenants) {
		for n := range 3 {
			wantNoDrop(t, f, tenant, uint32(n), api.ErrTenant)
		}
	}
	for _, n := range []uint32{1, 2} {
		wantNoDrop(t, f, 1, n, api.ErrState)
		wantNoDrop(t, f, 2, n, api.ErrState)
	}
	wantNoDrop(t, f, 2, 0, api.ErrState) // it is held twice, but the tenant has no charge
	drop(t, f, 1, 0)
	wantNoDrop(t, f, 2, 0, api.ErrState)
	wantTimes(t, f, 1, 0, 0)
}

// P17.3: the charge of the tenant that drops it last is one less, whoever took it.
func TestDropOfOthers(t *testing.T) {
	f := made(t, 4)
	admit(t, f, 1, 0, 2)
	admit(t, f, 2, 1, 2)
	take(t, f, 1, 0, 1)
	take(t, f, 2, 2)
	claim(t, f, 2, 0)
	drop(t, f, 1, 0)
	wantCharges(t, f, 2, 1)
	drop(t, f, 2, 0)
	wantCharges(t, f, 2, 0)
	wantTimes(t, f, 0, 1, 1, 0)
	wantSlack(t, f, 1)
	wantNoDrop(t, f, 2, 2, api.ErrState)
	drop(t, f, 1, 1, 2)
	wantCharges(t, f, 0, 0)
	wantState(t, f, state{size: 4, slack: 3, times: make([]int, 4), tenants: [numbers]account{1: {0, 2, 0, true}, 2: {1, 2, 0, true}}})
}
