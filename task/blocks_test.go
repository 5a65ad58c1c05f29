package task_test

import (
	"testing"

	"casemate/api"
	"casemate/reply"
)

// places is volumes of the tenant 1 that is peopled, and blocks of them: at their beginning, up to their end, past it, wholly behind it; and volumes that are not there.
func places() [][2]int {
	var l [][2]int
	for _, v := range []struct{ n, blocks int }{{1, 5}, {2, 20}, {4, 20}, {8, 256}} {
		for _, block := range []int{0, 1, 2, v.blocks - 9, v.blocks - 8, v.blocks - 7, v.blocks - 2, v.blocks - 1, v.blocks, v.blocks + 1, 255, 256, 65535} {
			if block >= 0 {
				l = append(l, [2]int{v.n, block})
			}
		}
	}
	for _, n := range []int{0, 3, 5, 7, 9, 255} {
		l = append(l, [2]int{n, 0}, [2]int{n, 65535})
	}
	return l
}

// P30.2, P30.3: Reads of one block to the most, of blocks that are written, that are not, and of some of each.
func TestRead(t *testing.T) {
	b := peopled(t)
	for _, p := range places() {
		for count := 1; count <= 8; count++ {
			o := readOf(p[0], p[1], count)
			b.wantStill(t, func() { b.wantDone(t, b.l[1], o) })
		}
	}
	b.want(t)
}

// P30.2, P30.3, P30.4: Writes of one block to the most: what was written ahead of one that is not there stays, and is read then.
func TestWrite(t *testing.T) {
	b := peopled(t)
	u := b.l[1]
	wantCode(t, "Limit", b.c.Limit(1, 0, b.c.Field().Size()), api.OK)
	for _, p := range places() {
		for _, count := range []int{1, 2, 3, 7, 8} {
			b.wantDone(t, u, b.writeOf(p[0], p[1], count))
			b.wantDone(t, u, readOf(p[0], p[1], count))
		}
	}
	b.want(t)
	b.commit(t, u)
	b.wantDone(t, u, b.writeOf(2, 14, 8))
	b.want(t)
	b.abort(t, u)
	b.want(t)
}

// P30.2, P30.3: Discards of one block to the most: how many had been written is told, or, with an error, how many blocks were done.
func TestDiscard(t *testing.T) {
	for _, count := range []int{1, 2, 3, 7, 8, 9, 20, 255, 256} {
		b := peopled(t)
		u := b.l[1]
		for _, p := range places() {
			b.wantDone(t, u, discardOf(p[0], p[1], count))
			b.wantDone(t, u, discardOf(p[0], p[1], count))
			b.wantDone(t, u, readOf(p[0], p[1], min(count, 8)))
		}
		b.want(t)
		b.abort(t, u)
		b.want(t)
	}
}

// P30.2: what the numbers are, by hand.
func TestNumbers(t *testing.T) {
	b := peopled(t)
	u := b.l[1]
	read := b.run(t, readOf(1, 0, 3).r, u.v)
	if read.E != api.OK || read.Number != 3 || len(read.Data) != 1536 {
		t.Errorf("Read: %v, %d, %d bytes", read.E, read.Number, len(read.Data))
	}
	wantReply(t, "Read past the end", b.run(t, readOf(1, 3, 3).r, u.v), reply.Reply{E: api.ErrBlock, Number: 2})
	wantReply(t, "Read behind the end", b.run(t, readOf(1, 5, 3).r, u.v), reply.Reply{E: api.ErrBlock})
	wantReply(t, "Read of no volume", b.run(t, readOf(6, 0, 3).r, u.v), reply.Reply{E: api.ErrVolume})
	wantReply(t, "Discard past the end", b.run(t, discardOf(1, 1, 256).r, u.v), reply.Reply{E: api.ErrBlock, Number: 4})
}

// P30.4: what is written block by block, in Writes of any size, is read block by block, in Reads of any size, in all of a volume.
func TestWrittenIsRead(t *testing.T) {
	b := fresh(t, 1000)
	u := b.add(t, 4, 0, 200)
	u.create(t, 7, 190)
	for at, size := 0, 1; at < 190; size = size%8 + 1 {
		b.wantDone(t, u, b.writeOf(7, at, size))
		at += size
	}
	wanted := func() {
		t.Helper()
		for _, size := range []int{1, 3, 5, 8} {
			for at := 0; at < 190; at += size {
				b.wantDone(t, u, readOf(7, at, size))
			}
		}
	}
	wanted()
	b.commit(t, u)
	wanted()
	b.want(t)
}
