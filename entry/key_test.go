package entry_test

import (
	"math"
	"testing"

	"casemate/api"
	"casemate/entry"
)

// outside is numbers that are below 0 or too great for all kinds of keys, some of which a shift makes those of others.
func outside() []int {
	return []int{math.MinInt, math.MinInt + 1, -1 << 32, -256, -9, -2, -1, 1 << 16, 1 << 31, 1 << 32, 1<<32 + 1, 1 << 33, math.MaxInt - 1, math.MaxInt}
}

// P23.1: the keys of all volumes' descriptions, and of numbers that no volume may have.
func TestVolumeKey(t *testing.T) {
	for volume, want := range map[int]uint64{1: 1 << 32, 2: 2 << 32, 7: 7 << 32, 8: 34359738368} {
		if key, e := entry.VolumeKey(volume); key != want || e != api.OK {
			t.Errorf("VolumeKey(%d): %d, %v", volume, key, e)
		}
	}
	for _, volume := range append(outside(), 0, 9, 10) {
		if key, e := entry.VolumeKey(volume); key != 0 || e != api.ErrVolume {
			t.Errorf("VolumeKey(%d): %d, %v", volume, key, e)
		}
	}
}

// P23.1: the document's example; the first and the last block, and blocks that no volume may have.
func TestBlockKey(t *testing.T) {
	if key, e := entry.BlockKey(1, 0); key != 4294967297 || e != api.OK {
		t.Errorf("BlockKey(1, 0): %d, %v", key, e)
	}
	for volume := 1; volume <= 8; volume++ {
		for block := range 256 {
			if key, e := entry.BlockKey(volume, block); key != uint64(volume)*4294967296+1+uint64(block) || e != api.OK {
				t.Fatalf("BlockKey(%d, %d): %d, %v", volume, block, key, e)
			}
		}
		for _, block := range append(outside(), 256, 257) {
			if key, e := entry.BlockKey(volume, block); key != 0 || e != api.ErrBlock {
				t.Errorf("BlockKey(%d, %d): %d, %v", volume, block, key, e)
			}
		}
	}
	// A volume that there cannot be is told ahead of such a block.
	for _, volume := range append(outside(), 0, 9, 10) {
		for _, block := range append(outside(), 0, 255, 256) {
			if key, e := entry.BlockKey(volume, block); key != 0 || e != api.ErrVolume {
				t.Errorf("BlockKey(%d, %d): %d, %v", volume, block, key, e)
			}
		}
	}
}

// P23.1: the keys of all tenants, and of numbers that no tenant may have.
func TestTenantKey(t *testing.T) {
	for tenant := 1; tenant <= 8; tenant++ {
		if key, e := entry.TenantKey(tenant); key != uint64(2*tenant) || e != api.OK {
			t.Errorf("TenantKey(%d): %d, %v", tenant, key, e)
		}
	}
	for _, tenant := range append(outside(), 0, 9, 10, 1<<62, 1<<62+1) {
		if key, e := entry.TenantKey(tenant); key != 0 || e != api.ErrTenant {
			t.Errorf("TenantKey(%d): %d, %v", tenant, key, e)
		}
	}
}

// P23.4: unlike volumes and blocks have unlike keys, none of them the count's; all of a volume stand from its description's key on, and ahead of the next one's; so do those of tenants.
func TestOrder(t *testing.T) {
	last := uint64(0)
	rise := func(what string, key uint64, e api.Errno) {
		t.Helper()
		if e != api.OK || key <= last {
			t.Fatalf("%s has the key %d, %v, behind %d", what, key, e, last)
		}
		last = key
	}
	for volume := 1; volume <= api.MaxVolumes; volume++ {
		key, e := entry.VolumeKey(volume)
		rise("a description", key, e)
		for block := range api.MaxBlocks {
			key, e := entry.BlockKey(volume, block)
			rise("a block", key, e)
		}
	}
	last = 1
	for tenant := 1; tenant <= api.MaxTenants; tenant++ {
		key, e := entry.TenantKey(tenant)
		rise("a tenant", key, e)
		last = key + 1 // what it is stands there
	}
}
