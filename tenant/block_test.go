package tenant_test

import (
	"math"
	"testing"

	"casemate/api"
	"casemate/entry"
)

// P24.3: blocks below 0, the first and the last one, and those that the volume has not, of volumes of all kinds.
func TestBlockWrong(t *testing.T) {
	b := laid(t, 60, 20).fresh(t, 1)
	ask := func(n, block int, want api.Errno) {
		t.Helper()
		if at, written, e := b.x.Block(n, block); at != (entry.Block{}) || written || e != want {
			t.Fatalf("Block(%d, %d): %v, %v, %v, want %v", n, block, at, written, e, want)
		}
		wantCode(t, "Clear", b.clear(t, n, block), want)
		if want != api.OK {
			wantCode(t, "Set", b.set(t, n, block), want)
		}
	}
	blocks := []int{math.MinInt, -1 << 32, -1, 256, 257, 1 << 32, math.MaxInt}
	for _, n := range append(wrong(), 1, 8) {
		for _, block := range append(blocks, 0, 255) {
			ask(n, block, api.ErrVolume)
		}
	}
	for n, size := range map[int]int{1: 1, 2: 5, 7: 255, 8: 256} {
		b.create(t, n, size)
		for _, block := range append(blocks, size, size+1) {
			ask(n, block, api.ErrBlock)
		}
		ask(n, 0, api.OK)
		ask(n, size-1, api.OK)
	}
	b.want(t)
	b.free(t)
}

// P24.3: what is set is told, as it was handed in, whatever it is; what stood there is dropped; what is cleared is not there any more.
func TestSet(t *testing.T) {
	b := laid(t, 60, 20).fresh(t, 1)
	b.create(t, 1, 256)
	b.create(t, 2, 1)
	for round := range 3 {
		for _, block := range []int{255, 0, 7, 254, 1} {
			wantCode(t, "Set", b.set(t, 1, block), api.OK)
			b.want(t)
		}
		// In the last round the kept tree has others.
		if got := b.pool.Field().Charge(1); got != 5+round/2*5 {
			t.Fatalf("the charge is %d", got)
		}
		if round == 1 {
			b.settle(t)
		}
		for _, block := range []int{7, 0, 255, 0, 6} {
			wantCode(t, "Clear", b.clear(t, 1, block), api.OK)
			b.want(t)
		}
		b.abort(t)
		b.want(t)
		b.create(t, 1, 256)
	}
	b.free(t)
}

// P24.3: a block's reference and stamp are told to the last digit.
func TestSetAny(t *testing.T) {
	b := laid(t, 60, 20).fresh(t, 1)
	b.create(t, 1, 2)
	sum := api.Sum{}
	for i := range sum {
		sum[i] = byte(200 + i)
	}
	for _, stamp := range []uint64{0, 1, 1 << 40, math.MaxUint64} {
		for _, s := range []api.Sum{{}, sum, {31: 1}} {
			at, e := b.put(t)
			wantCode(t, "Put", e, api.OK)
			at.Ref.Sum, at.Stamp = s, stamp
			wantCode(t, "Set", b.x.Set(1, 1, at), api.OK)
			b.p.set(1, 1, at)
			b.want(t)
		}
	}
	b.free(t)
}

// P24.3: an extent that is set where it stood already, in another place, and in two: each hold is one.
func TestSetAgain(t *testing.T) {
	b := laid(t, 60, 20).fresh(t, 1)
	field := b.pool.Field()
	b.create(t, 1, 4)
	b.create(t, 2, 4)
	at, e := b.put(t)
	wantCode(t, "Put", e, api.OK)
	for i, c := range [][2]int{{1, 0}, {1, 0}, {1, 0}, {2, 0}, {2, 3}, {1, 0}, {2, 3}} {
		if i > 0 {
			wantCode(t, "Hold", field.Hold(at.Ref.Sector), api.OK)
		}
		wantCode(t, "Set", b.x.Set(c[0], c[1], at), api.OK)
		b.p.set(c[0], c[1], at)
		b.want(t)
	}
	b.settle(t)
	b.want(t)
	// Moved from one block to another: what the kept tree drops is what it holds.
	wantCode(t, "Hold", field.Hold(at.Ref.Sector), api.OK)
	wantCode(t, "Set", b.x.Set(1, 3, at), api.OK)
	b.p.set(1, 3, at)
	for _, c := range [][2]int{{1, 0}, {2, 0}, {2, 3}} {
		b.clear(t, c[0], c[1])
	}
	b.want(t)
	b.settle(t)
	b.want(t)
	b.clear(t, 1, 3)
	b.want(t)
	b.abort(t)
	b.want(t)
	b.free(t)
}

// P24.3: what nobody holds, and what is no extent, is told as it was set, and harms nothing else.
func TestSetLies(t *testing.T) {
	b := laid(t, 60, 20).fresh(t, 1)
	b.create(t, 1, 9)
	wantCode(t, "Set", b.set(t, 1, 0), api.OK)
	for i, extent := range []uint32{19, 20, 1 << 31, math.MaxUint32} {
		lie := entry.Block{Ref: api.Ref{Sector: extent}}
		wantCode(t, "Set", b.x.Set(1, 1+i, lie), api.OK)
		if at, written, e := b.x.Block(1, 1+i); at != lie || !written || e != api.OK {
			t.Errorf("Block: %v, %v, %v", at, written, e)
		}
	}
	wantCode(t, "Snapshot", b.x.Snapshot(1, 2), api.OK)
	for range 2 {
		l, e := b.x.Changes()
		wantCode(t, "Changes", e, api.OK)
		wantCode(t, "Settle", b.x.Settle(l), api.OK)
	}
	if got := b.pool.Field().Times(0); got != 4 {
		t.Errorf("the true block's extent is held %d times", got)
	}
	wantCode(t, "Resize", b.x.Resize(1, 1), api.OK)
	wantCode(t, "Abort", b.x.Abort(), api.OK)
	if was, e := b.x.Clear(2, 4); !was || e != api.OK {
		t.Errorf("Clear: %v, %v", was, e)
	}
	b.free(t)
}
