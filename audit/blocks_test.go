package audit_test

import (
	"slices"
	"testing"

	"casemate/api"
	"casemate/reply"
	"casemate/req"
)

// integrities is ErrIntegrity at each of so many blocks.
func integrities(blocks int) []reply.Reply {
	var l []reply.Reply
	for n := range blocks {
		l = append(l, failAt(api.ErrIntegrity, n))
	}
	return l
}

// wantEnds fails if a request of blocks may end otherwise than so: with a reply, or with ErrIntegrity at one of so many blocks.
func (x *tale) wantEnds(t *testing.T, r req.Request, end reply.Reply, turned int) {
	t.Helper()
	x.wantMay(t, r, append(integrities(turned), end)...)
}

// noVolumes is numbers of volumes that peopled has not.
func noVolumes() []int {
	return []int{0, 3, 5, 8, 9, 10, 255}
}

// P34.1, P34.4: Reads of one block to eight, at a volume's beginning, in it, up to its end, past it and behind it, of blocks that were written, that were not, and of some of each.
func TestRead(t *testing.T) {
	t.Parallel()
	x := peopled(t)
	for n, blocks := range now() {
		for _, from := range []int{0, 1, len(blocks) - 2, len(blocks) - 1, len(blocks), 256, 65535} {
			for _, count := range []int{1, 2, 8} {
				r := readOf(3, n, from, count)
				if left := len(blocks) - from; left < count {
					left = max(left, 0)
					x.wantEnds(t, r, failAt(api.ErrBlock, left), left+1)
					continue
				}
				x.wantEnds(t, r, read(blocks[from:from+count]...), count)
			}
		}
	}
	for _, n := range noVolumes() {
		x.wantEnds(t, readOf(3, n, 0, 1), fail(api.ErrVolume), 1)
		x.wantEnds(t, readOf(3, n, 65535, 8), fail(api.ErrVolume), 1)
	}
	x.and(t, readOf(3, 1, 0, 5), read(11, 12, 0, 0, 0)).and(t, readOf(3, 2, 9, 8), failAt(api.ErrIntegrity, 2)).wantTells(t, 3, peopledStatus(t), now())
}

// P34.4: of a Read's reply each digit counts.
func TestReadTurned(t *testing.T) {
	t.Parallel()
	x := peopled(t)
	right := entryOf(t, readOf(3, 1, 1, 2), read(12, 0))
	x.wantVerdict(t, right, 0)
	for at := range right.Reply {
		for _, digit := range []int{at % 8, (at + 3) % 8} {
			wrong := entryOf(t, readOf(3, 1, 1, 2), read(12, 0))
			wrong.Reply[at] ^= 1 << digit
			verdict := 2
			if at == 2 && digit == 7 {
				verdict = 1 // no Number is as great
			}
			x.wantVerdict(t, wrong, verdict)
		}
	}
	// The same texts at other places.
	for _, wrong := range []reply.Reply{read(0, 12), read(12, 12), read(0, 0), read(11, 0), read(12), read(12, 0, 0), {Number: 2}} {
		x.wantVerdict(t, entryOf(t, readOf(3, 1, 1, 2), wrong), 2)
	}
}

// P34.1: Writes of one block to eight, at a volume's beginning, up to its end, past it and behind it, while the charge stays below the quota.
func TestWrite(t *testing.T) {
	t.Parallel()
	x := peopled(t).and(t, limitOf(2, 100), ok())
	for n, blocks := range now() {
		for _, from := range []int{0, 1, len(blocks) - 2, len(blocks) - 1, len(blocks), 256, 65535} {
			for _, numbers := range [][]int{{21}, {21, 22}, {21, 22, 23, 24, 25, 26, 27, 28}} {
				r := writeOf(3, n, from, numbers...)
				can := min(max(len(blocks)-from, 0), len(numbers))
				end, turned := number(can), can
				if can < len(numbers) {
					end, turned = failAt(api.ErrBlock, can), can+1
				}
				x.wantEnds(t, r, end, turned)
				// What was written ahead of an error stays.
				written := now()
				copy(written[n][min(from, len(blocks)):], numbers)
				x.and(t, r, end).wantReads(t, written)
				written = now()
				copy(written[n][min(from, len(blocks)):], numbers[:turned-1])
				x.and(t, r, failAt(api.ErrIntegrity, turned-1)).wantReads(t, written)
			}
		}
	}
	for _, n := range noVolumes() {
		x.wantEnds(t, writeOf(3, n, 0, 21), fail(api.ErrVolume), 1)
		x.wantEnds(t, writeOf(3, n, 65535, 21, 22, 23), fail(api.ErrVolume), 1)
		x.and(t, writeOf(3, n, 0, 21), fail(api.ErrVolume)).and(t, writeOf(3, n, 0, 21), integrity()).wantReads(t, now())
	}
}

// wantReads fails if Reads of all blocks don't tell these, in the session 3.
func (x *tale) wantReads(t *testing.T, volumes map[int][]int) {
	t.Helper()
	l := slices.Clone(x.l)
	for n, blocks := range volumes {
		for from := 0; from < len(blocks); from += 8 {
			some := blocks[from:min(from+8, len(blocks))]
			l = append(l, entryOf(t, readOf(3, n, from, len(some)), read(some...)))
		}
	}
	(&tale{x.id, l}).book(t)
}

// P34.1: Writes with the charge below the quota, at it, and such that it is reached between: the block that would be one too many ends them. No write that stands where they write goes, since what is kept, or the other volume, names it.
func TestWriteQuota(t *testing.T) {
	t.Parallel()
	for _, quota := range []int{6, 7, 8, 9, 13, 14, 15} {
		x := peopled(t).and(t, limitOf(2, quota), ok())
		for _, c := range [][3]int{{1, 0, 5}, {1, 2, 3}, {1, 0, 8}, {1, 4, 2}, {1, 5, 1}, {2, 0, 8}, {2, 9, 3}, {2, 11, 8}, {4, 0, 1}, {4, 1, 8}, {4, 11, 1}} {
			n, from, count := c[0], c[1], c[2]
			numbers := []int{31, 32, 33, 34, 35, 36, 37, 38}[:count]
			end, can := number(count), count
			if left := len(now()[n]) - from; left < can {
				end, can = failAt(api.ErrBlock, left), left
			}
			if left := quota - 6; left < can {
				end, can = failAt(api.ErrQuota, left), left
			}
			turned := min(can+1, count)
			x.wantEnds(t, writeOf(3, n, from, numbers...), end, turned)
			x.and(t, writeOf(3, n, from, numbers...), end).wantCharge(t, 6+can)
			for at := range turned {
				x.and(t, writeOf(3, n, from, numbers...), failAt(api.ErrIntegrity, at)).wantCharge(t, 6+at)
			}
		}
		x.wantEnds(t, writeOf(3, 5, 0, 31), fail(api.ErrVolume), 1)
	}
}

// P34.1: a block that is written again is charged twice till what stood there goes; so at the quota it can't be, and below it it can be any number of times.
func TestWriteAgain(t *testing.T) {
	t.Parallel()
	for quota := range 5 {
		x := (&tale{id: 2}).and(t, addOf(2, quota), ok()).and(t, openOf(2, 2), number(3)).and(t, createOf(3, 1, 9), ok())
		for n := range quota {
			x = x.and(t, writeOf(3, 1, n, 41+n), number(1))
		}
		for n := range 9 {
			x.wantEnds(t, writeOf(3, 1, n, 50), fail(api.ErrQuota), 1)
		}
		if quota == 0 {
			continue
		}
		// One less, and there is room for one.
		x = x.and(t, discardOf(3, 1, 0, 1), number(1))
		x.wantCharge(t, quota-1)
		for n := range 9 {
			y := x.and(t, writeOf(3, 1, n, 50), number(1))
			wantCharge := quota
			if n > 0 && n < quota {
				wantCharge = quota - 1 // what stood there is gone
			}
			y.wantCharge(t, wantCharge)
		}
		// Nothing is kept, so what stands there goes block by block.
		numbers := []int{61, 62, 63, 64}[:quota]
		if quota > 1 {
			x.wantEnds(t, writeOf(3, 1, 0, numbers...), failAt(api.ErrQuota, 1), 2)
			y := x.and(t, writeOf(3, 1, 1, numbers[1:]...), number(quota-1))
			y.wantCharge(t, quota-1)
			y.and(t, readOf(3, 1, 0, quota), read(append([]int{0}, numbers[1:]...)...))
		}
		x.and(t, readOf(3, 1, 0, quota), read([]int{0, 42, 43, 44}[:quota]...))
		// Committed ones stay charged.
		z := x.and(t, plainOf(3, req.Commit), ok()).and(t, writeOf(3, 1, quota-1, 70), number(1))
		z.wantCharge(t, quota)
		z.wantEnds(t, writeOf(3, 1, quota-1, 71), fail(api.ErrQuota), 1)
		z.and(t, plainOf(3, req.Commit), ok()).wantCharge(t, max(quota-1, 1))
	}
}

// P34.1: Discards of one block to the most: how many were written; of an error, how many were done.
func TestDiscard(t *testing.T) {
	t.Parallel()
	x := peopled(t)
	for n, blocks := range now() {
		for _, from := range []int{0, 1, len(blocks) - 1, len(blocks), 65535} {
			for _, count := range []int{1, 2, 4, 5, 11, 12, 255, 256} {
				r := discardOf(3, n, from, count)
				can := min(max(len(blocks)-from, 0), count)
				left := now()
				written := 0
				for i := range can {
					if left[n][from+i] > 0 {
						written++
					}
					left[n][from+i] = 0
				}
				end, turned := number(written), can
				if can < count {
					end, turned = failAt(api.ErrBlock, can), can+1
				}
				x.wantEnds(t, r, end, turned)
				x.and(t, r, end).wantReads(t, left)
				left = now()
				clear(left[n][min(from, len(blocks)) : min(from, len(blocks))+turned-1])
				x.and(t, r, failAt(api.ErrIntegrity, turned-1)).wantReads(t, left)
			}
		}
	}
	for _, n := range noVolumes() {
		x.wantEnds(t, discardOf(3, n, 0, 1), fail(api.ErrVolume), 1)
		x.wantEnds(t, discardOf(3, n, 65535, 256), fail(api.ErrVolume), 1)
	}
}

// P34.1: what is discarded is charged till neither what is kept nor a snapshot names it.
func TestDiscardCharge(t *testing.T) {
	t.Parallel()
	x := peopled(t).and(t, discardOf(3, 2, 0, 12), number(2))
	x.wantCharge(t, 6)
	x = x.and(t, discardOf(3, 4, 0, 5), number(1))
	x.wantCharge(t, 5)
	x = x.and(t, discardOf(3, 4, 0, 12), number(1))
	x.wantCharge(t, 5)
	x = x.and(t, plainOf(3, req.Commit), ok())
	x.wantCharge(t, 2)
	x.and(t, discardOf(3, 1, 0, 5), number(2)).wantCharge(t, 2)
	x.and(t, discardOf(3, 1, 0, 5), number(2)).and(t, plainOf(3, req.Commit), ok()).wantCharge(t, 0)
}
