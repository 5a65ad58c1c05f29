package tenant_test

import (
	"math"
	"slices"
	"testing"

	"casemate/api"
	"casemate/entry"
	"casemate/walk"
)

// wrong is numbers that no volume may have.
func wrong() []int {
	return []int{math.MinInt, -1 << 32, -9, -1, 0, 9, 10, 1 << 31, 1<<32 + 1, 1 << 33, math.MaxInt}
}

// sizes is numbers of blocks that no volume may have.
func sizes() []int {
	return []int{math.MinInt, -256, -1, 0, 257, 512, 1 << 32, 1<<32 + 1, math.MaxInt}
}

// P24.2: the document's example; volumes of all numbers, of the least and the greatest size.
func TestCreate(t *testing.T) {
	b := laid(t, 60, 9).fresh(t, 1)
	b.want(t)
	wantCode(t, "Create", b.create(t, 1, 5), api.OK)
	wantCode(t, "Snapshot", b.snapshot(t, 1, 2), api.OK)
	if l, e := b.x.Volumes(); !slices.Equal(l, []int{1, 2}) || e != api.OK {
		t.Errorf("Volumes: %v, %v", l, e)
	}
	for _, n := range []int{8, 3, 7, 4, 6, 5} {
		wantCode(t, "Create", b.create(t, n, 1+255*(n%2)), api.OK)
		b.want(t)
	}
	if v, e := b.x.Volume(5); v != (entry.Volume{Number: 7, Blocks: 256}) || e != api.OK {
		t.Errorf("Volume(5): %v, %v", v, e)
	}
	b.free(t)
}

// P24.2: numbers and sizes that may not be, and volumes that are there already; which of these is told first.
func TestCreateWrong(t *testing.T) {
	b := laid(t, 60, 9).fresh(t, 1)
	for _, there := range []bool{false, true} {
		for _, n := range wrong() {
			for _, blocks := range append(sizes(), 1, 256) {
				wantCode(t, "Create of a wrong number", b.create(t, n, blocks), api.ErrVolume)
			}
		}
		for n := 1; n <= 8; n++ {
			for _, blocks := range sizes() {
				wantCode(t, "Create of a wrong size", b.create(t, n, blocks), api.ErrArg)
			}
			if there {
				wantCode(t, "Create, again", b.create(t, n, 1), api.ErrThere)
				wantCode(t, "Create, again", b.create(t, n, n), api.ErrThere)
			}
		}
		b.want(t)
		for n := 1; n <= 8 && !there; n++ {
			wantCode(t, "Create", b.create(t, n, n), api.OK)
		}
	}
	b.want(t)
}

// P24.2: a volume that is made anew has another Number, and nothing of what it had; a snapshot has that of its volume, which it keeps.
func TestNumbers(t *testing.T) {
	b := laid(t, 100, 20).fresh(t, 1)
	wantNumber := func(n int, want uint64) {
		t.Helper()
		if v, e := b.x.Volume(n); v.Number != want || e != api.OK {
			t.Fatalf("Volume(%d): %v, %v, want the Number %d", n, v, e, want)
		}
	}
	b.create(t, 3, 9)
	b.set(t, 3, 4)
	b.snapshot(t, 3, 5)
	b.create(t, 4, 9)
	wantNumber(3, 1)
	wantNumber(4, 2)
	wantNumber(5, 1)
	for range 3 {
		b.remove(t, 4)
	}
	b.remove(t, 3)
	b.create(t, 3, 9)
	wantNumber(3, 3)
	if at, written, e := b.x.Block(3, 4); at != (entry.Block{}) || written || e != api.OK {
		t.Errorf("a block of a volume that was made anew: %v, %v, %v", at, written, e)
	}
	b.settle(t)
	b.resize(t, 3, 200)
	b.create(t, 4, 1)
	wantNumber(3, 3)
	wantNumber(4, 4)
	b.abort(t)
	b.want(t)
	// The count is as it was, too, so that the next volume has the Number of the one that there never was.
	b.create(t, 6, 1)
	wantNumber(6, 4)
	b.settle(t)
	for _, n := range []int{3, 5, 6} {
		b.remove(t, n)
	}
	b.want(t)
	b.settle(t)
	b.create(t, 1, 1)
	wantNumber(1, 5)
	b.free(t)
}

// P24.2: volumes that are not there, or of numbers that may not be.
func TestRemove(t *testing.T) {
	b := laid(t, 200, 60).fresh(t, 1)
	for _, n := range append(wrong(), 1, 8) {
		wantCode(t, "Remove of none", b.remove(t, n), api.ErrVolume)
	}
	for _, n := range []int{2, 3, 4, 8} {
		wantCode(t, "Create", b.create(t, n, 256), api.OK)
		for _, block := range []int{0, 1, 99, 254, 255} {
			wantCode(t, "Set", b.set(t, n, block), api.OK)
		}
	}
	for _, n := range []int{3, 8, 2, 4} {
		wantCode(t, "Remove", b.remove(t, n), api.OK)
		b.want(t)
		wantCode(t, "Remove, again", b.remove(t, n), api.ErrVolume)
		b.create(t, n, 256)
		b.want(t)
		wantCode(t, "Remove", b.remove(t, n), api.OK)
	}
	if b.pool.Field().Charge(1) != 0 {
		t.Errorf("the charge is %d", b.pool.Field().Charge(1))
	}
	b.free(t)
}

// P24.2: a volume that becomes smaller has lost what stood behind, also when it becomes greater again; its neighbours have not.
func TestResize(t *testing.T) {
	b := laid(t, 300, 90).fresh(t, 1)
	for n := 1; n <= 3; n++ {
		b.create(t, n, 256)
		for block := range 256 {
			if block < 8 || block%17 == 0 {
				wantCode(t, "Set", b.set(t, n, block), api.OK)
			}
		}
	}
	b.settle(t)
	for _, blocks := range []int{256, 255, 9, 5, 6, 256, 4, 4, 1, 256, 1} {
		wantCode(t, "Resize", b.resize(t, 2, blocks), api.OK)
		b.want(t)
	}
	for _, n := range append(wrong(), 4, 8) {
		for _, blocks := range append(sizes(), 1) {
			wantCode(t, "Resize of none", b.resize(t, n, blocks), api.ErrVolume)
		}
	}
	for _, blocks := range sizes() {
		wantCode(t, "Resize to a wrong size", b.resize(t, 2, blocks), api.ErrArg)
	}
	b.want(t)
	b.abort(t)
	b.want(t)
	b.free(t)
}

// P24.2: a snapshot's numbers, of which both, one or none may be; it is told first if there is no volume.
func TestSnapshotWrong(t *testing.T) {
	b := laid(t, 60, 9).fresh(t, 1)
	b.create(t, 2, 5)
	b.create(t, 8, 5)
	for from := -2; from <= 11; from++ {
		for to := -2; to <= 11; to++ {
			e := b.snapshot(t, from, to)
			switch {
			case from != 2 && from != 8 || to < 1 || to > 8:
				wantCode(t, "Snapshot", e, api.ErrVolume)
			case to == 2 || to == 8:
				wantCode(t, "Snapshot onto one that is there", e, api.ErrThere)
			default:
				wantCode(t, "Snapshot", e, api.OK)
				b.want(t)
				b.remove(t, to)
			}
		}
	}
	for _, n := range wrong() {
		b.snapshot(t, n, 3)
		b.snapshot(t, 2, n)
		b.snapshot(t, n, n)
	}
	b.want(t)
}

// P24.2, P24.6: a snapshot has what its volume had, ahead of it and behind it, whatever is done to one of both.
func TestSnapshot(t *testing.T) {
	for _, c := range [][2]int{{1, 2}, {2, 1}, {1, 8}, {8, 1}, {3, 7}, {7, 3}} {
		b := laid(t, 400, 60).fresh(t, 1)
		from, to := c[0], c[1]
		b.create(t, from, 256)
		for _, block := range []int{0, 1, 2, 100, 254, 255} {
			b.set(t, from, block)
		}
		wantCode(t, "Snapshot", b.snapshot(t, from, to), api.OK)
		b.want(t)
		b.set(t, from, 1)
		b.set(t, from, 3)
		b.clear(t, from, 0)
		b.want(t)
		b.set(t, to, 2)
		b.set(t, to, 4)
		b.clear(t, to, 255)
		b.want(t)
		b.settle(t)
		b.resize(t, from, 2)
		b.want(t)
		b.snapshot(t, to, 5)
		b.resize(t, to, 1)
		b.want(t)
		b.remove(t, from)
		b.want(t)
		b.snapshot(t, 5, from)
		b.remove(t, 5)
		b.want(t)
		b.abort(t)
		b.want(t)
		b.free(t)
	}
}

// P24.2: all that a tenant may have: eight volumes of 256 blocks each, with all blocks written.
func TestGreatest(t *testing.T) {
	b := laid(t, 1500, 2048).fresh(t, 1)
	wantCode(t, "Create", b.create(t, 1, 256), api.OK)
	for block := range 256 {
		wantCode(t, "Set", b.set(t, 1, block), api.OK)
	}
	for n := 2; n <= 8; n++ {
		wantCode(t, "Snapshot", b.snapshot(t, 1, n), api.OK)
	}
	b.want(t)
	b.settle(t)
	if got := b.pool.Field().Times(0); got != 16 || b.pool.Field().Charge(1) != 256 {
		t.Errorf("the first extent is held %d times; the charge is %d", got, b.pool.Field().Charge(1))
	}
	if n, e := walk.Look(b.s, opened(t, b)); n.Pairs != 2057 || e != api.OK {
		t.Errorf("Look: %v, %v", n, e)
	}
	b.again(t)
	b.reopen(t)
	b.want(t)
	for n := 8; n > 1; n-- {
		wantCode(t, "Remove", b.remove(t, n), api.OK)
	}
	b.settle(t)
	b.want(t)
	b.free(t)
}
