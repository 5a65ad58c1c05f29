package audit_test

import (
	"maps"
	"slices"
	"testing"

	"casemate/api"
	"casemate/reply"
	"casemate/req"
)

// wantWhole fails if a request of no blocks may be answered otherwise than so, or by ErrIntegrity.
func (x *tale) wantWhole(t *testing.T, r req.Request, e api.Errno) {
	t.Helper()
	x.wantMay(t, r, fail(e), integrity())
}

// statusOf is the status of the tenant that is peopled, with other volumes.
func statusOf(t *testing.T, charge int, volumes map[int][]int) reply.Reply {
	t.Helper()
	var l [][3]int
	for n, blocks := range volumes {
		written := len(slices.DeleteFunc(slices.Clone(blocks), func(n int) bool { return n == 0 }))
		l = append(l, [3]int{n, len(blocks), written})
	}
	return status(t, charge, 8, l...)
}

// wantAll fails if the tenant that is peopled does not have just these volumes, and what was committed behind a crash.
func (x *tale) wantAll(t *testing.T, charge int, volumes map[int][]int) {
	t.Helper()
	x.wantTells(t, 3, statusOf(t, charge, volumes), volumes)
	y := x.crashed().and(t, openOf(2, 2), number(6))
	y.wantTells(t, 6, keptStatus(t), kept())
	z := x.and(t, plainOf(3, req.Abort), ok())
	z.wantTells(t, 3, keptStatus(t), kept())
}

// with is what peopled has, with another volume.
func with(n int, blocks []int) map[int][]int {
	l := maps.Clone(now())
	l[n] = blocks
	if blocks == nil {
		delete(l, n)
	}
	return l
}

// P34.1: Create, with each of its errors, in their order.
func TestCreate(t *testing.T) {
	t.Parallel()
	x := peopled(t)
	for _, n := range []int{0, 9, 255} {
		for _, blocks := range []int{0, 5, 257} {
			x.wantWhole(t, createOf(3, n, blocks), api.ErrVolume)
		}
	}
	for _, n := range []int{1, 2, 3, 8} {
		for _, blocks := range []int{0, 257, 65535} {
			x.wantWhole(t, createOf(3, n, blocks), api.ErrArg)
		}
	}
	for _, n := range []int{1, 2, 4} {
		for _, blocks := range []int{1, 256} {
			x.wantWhole(t, createOf(3, n, blocks), api.ErrThere)
		}
	}
	for _, n := range []int{3, 5, 8} {
		for _, blocks := range []int{1, 2, 256} {
			x.wantWhole(t, createOf(3, n, blocks), api.OK)
		}
		x.and(t, createOf(3, n, 9), ok()).wantAll(t, 6, with(n, make([]int, 9)))
		x.and(t, createOf(3, n, 9), integrity()).wantAll(t, 6, now())
		x.and(t, createOf(3, n, 257), fail(api.ErrArg)).wantAll(t, 6, now())
	}
	x.and(t, createOf(3, 1, 9), fail(api.ErrThere)).wantAll(t, 6, now())
}

// P34.1: Remove: what its blocks alone name is charged no more, once it is committed.
func TestRemove(t *testing.T) {
	t.Parallel()
	x := peopled(t)
	for _, n := range noVolumes() {
		x.wantWhole(t, removeOf(3, n), api.ErrVolume)
	}
	for n := range now() {
		x.wantWhole(t, removeOf(3, n), api.OK)
		y := x.and(t, removeOf(3, n), ok())
		y.wantAll(t, 6, with(n, nil))
		y.wantWhole(t, removeOf(3, n), api.ErrVolume)
		x.and(t, removeOf(3, n), integrity()).wantAll(t, 6, now())
		// A volume of that number is another one.
		y.and(t, createOf(3, n, 3), ok()).wantAll(t, 6, with(n, make([]int, 3)))
	}
	y := x.and(t, removeOf(3, 2), ok()).and(t, removeOf(3, 4), ok())
	y.wantCharge(t, 5)
	y.and(t, plainOf(3, req.Commit), ok()).wantCharge(t, 2)
}

// P34.1: Resize, to fewer blocks, to as many and to more; what is cut off is not there any more, whatever it grows to.
func TestResize(t *testing.T) {
	t.Parallel()
	x := peopled(t)
	for _, n := range noVolumes() {
		for _, blocks := range []int{0, 5, 257} {
			x.wantWhole(t, resizeOf(3, n, blocks), api.ErrVolume)
		}
	}
	for _, blocks := range []int{0, 257, 65535} {
		x.wantWhole(t, resizeOf(3, 2, blocks), api.ErrArg)
	}
	for _, blocks := range []int{1, 2, 11, 12, 13, 256} {
		x.wantWhole(t, resizeOf(3, 2, blocks), api.OK)
		left := make([]int, blocks)
		copy(left, now()[2])
		y := x.and(t, resizeOf(3, 2, blocks), ok())
		y.wantAll(t, 6, with(2, left))
		x.and(t, resizeOf(3, 2, blocks), integrity()).wantAll(t, 6, now())
		grown := make([]int, 20)
		copy(grown, left[:min(blocks, 20)])
		y.and(t, resizeOf(3, 2, 20), ok()).wantAll(t, 6, with(2, grown))
	}
	x.and(t, resizeOf(3, 2, 257), fail(api.ErrArg)).wantAll(t, 6, now())
	// What the snapshot does not name is charged no more.
	y := x.and(t, writeOf(3, 2, 1, 18), number(1))
	y.wantCharge(t, 7)
	y.and(t, resizeOf(3, 2, 1), ok()).wantCharge(t, 6)
}

// P34.1: Snapshot, with each of its errors, in their order; what is done to one of both is not done to the other.
func TestSnapshot(t *testing.T) {
	t.Parallel()
	x := peopled(t)
	for _, from := range noVolumes() {
		for _, to := range []int{0, 1, 3, 9} {
			x.wantWhole(t, snapshotOf(3, from, to), api.ErrVolume)
		}
	}
	for from := range now() {
		for _, to := range []int{0, 9, 255} {
			x.wantWhole(t, snapshotOf(3, from, to), api.ErrVolume)
		}
		for to := range now() {
			x.wantWhole(t, snapshotOf(3, from, to), api.ErrThere)
		}
		for _, to := range []int{3, 8} {
			x.wantWhole(t, snapshotOf(3, from, to), api.OK)
			x.and(t, snapshotOf(3, from, to), ok()).wantAll(t, 6, with(to, now()[from]))
			x.and(t, snapshotOf(3, from, to), integrity()).wantAll(t, 6, now())
		}
	}
	y := x.and(t, snapshotOf(3, 1, 8), ok())
	written := with(8, []int{11, 21, 0, 0, 0})
	y.and(t, writeOf(3, 8, 1, 21), number(1)).wantAll(t, 7, written)
	written = with(8, now()[1])
	written[1] = []int{11, 21, 0, 0, 0}
	y.and(t, writeOf(3, 1, 1, 21), number(1)).wantAll(t, 7, written)
	written[1] = []int{0, 12, 0, 0, 0}
	y.and(t, discardOf(3, 1, 0, 1), number(1)).wantAll(t, 6, written)
	written[1] = []int{11}
	y.and(t, resizeOf(3, 1, 1), ok()).wantAll(t, 6, written)
	delete(written, 1)
	y.and(t, removeOf(3, 1), ok()).wantAll(t, 6, written)
}
