package thin_test

import (
	"bytes"
	"slices"
	"testing"

	"casemate/api"
	"casemate/entry"
)

// asWritten reads each block of each volume: each must be as it was written last, or ErrIntegrity, as Used is right, or that. It tells the blocks that were not read.
func (u *user) asWritten(t *testing.T) [][2]int {
	t.Helper()
	var lost [][2]int
	for n, v := range u.p.working {
		if used, e := u.v.Used(n); e == api.OK && used != len(v.written) || e != api.OK && (e != api.ErrIntegrity || used != 0) {
			t.Fatalf("Used(%d): %d, %v", n, used, e)
		}
		for block := range v.blocks {
			b, e := u.v.Read(n, block)
			if e == api.OK && bytes.Equal(b, text(v.written[block])) {
				continue
			}
			if e != api.ErrIntegrity || len(b) != 0 {
				t.Fatalf("Read(%d, %d): %d bytes, %v", n, block, len(b), e)
			}
			lost = append(lost, [2]int{n, block})
		}
	}
	if u.pool.Clash() || u.s.Clash() {
		t.Fatal("the log has a clash")
	}
	return lost
}

// standing is the blocks that stand in each extent.
func (u *user) standing(t *testing.T) map[uint32][][2]int {
	t.Helper()
	out := map[uint32][][2]int{}
	for n, v := range u.p.working {
		for block := range v.written {
			at := u.place(t, n, block)
			out[at.Ref.Sector] = append(out[at.Ref.Sector], [2]int{n, block})
		}
	}
	return out
}

// wantLost fails if other blocks than these are not read.
func (u *user) wantLost(t *testing.T, want [][2]int) {
	t.Helper()
	lost := u.asWritten(t)
	for _, c := range want {
		if !slices.Contains(lost, c) {
			t.Fatalf("the block %v is read", c)
		}
	}
	if len(lost) != len(want) {
		t.Fatalf("%v are not read, want %v", lost, want)
	}
}

// P25.8: whichever extent's sector is turned, just its blocks are ErrIntegrity, and the others as they were; one that is put back is read again.
func TestTurnedBlocks(t *testing.T) {
	u := written(t)
	standing := u.standing(t)
	for extent := range uint32(60) {
		turned(t, u.blocks, first+extent, func() {
			u.wantSame(t, func() { u.wantLost(t, standing[extent]) })
		})
	}
	for sector := range uint32(first) {
		turned(t, u.blocks, sector, func() { u.wantLost(t, nil) })
	}
	if len(standing) < 25 {
		t.Errorf("there are %d blocks alone", len(standing))
	}
	u.want(t)
}

// P25.8: each digit of a block's sector counts.
func TestTurnedDigits(t *testing.T) {
	u := laid(t, 60, 5).fresh(t, 1)
	u.create(t, 1, 1)
	u.write(t, 1, 0, api.OK)
	was, e := u.blocks.Read(first)
	wantCode(t, "Read", e, api.OK)
	for i := range api.Sector {
		b := slices.Clone(was)
		b[i] ^= 1 << (i % 8)
		replaced(t, u.blocks, first, b, func() { u.wantLost(t, [][2]int{{1, 0}}) })
	}
	u.want(t)
}

// P25.8: old images, and images of others in their place: of the block that stood there ahead, of others of that volume, of another one, of another tenant, and noughts.
func TestOldBlocks(t *testing.T) {
	g := laid(t, 120, 30)
	u, w := g.fresh(t, 1), g.fresh(t, 2)
	for _, x := range []*user{u, w} {
		x.create(t, 1, 5)
		x.create(t, 2, 5)
		for block := range 4 {
			x.write(t, 1, block, api.OK)
			x.write(t, 2, block, api.OK)
		}
	}
	images := shown(t, g.blocks)
	for block := range 4 { // now there are other blocks in the same extents
		u.discard(t, 1, block)
		u.write(t, 1, block, api.OK)
		u.write(t, 2, block, api.OK)
	}
	images = append(images, shown(t, g.blocks)...)
	images = append(images, make([]byte, 512), text(1), text(u.writes))
	for extent, blocks := range u.standing(t) {
		right := 0
		for _, image := range images {
			now, e := g.blocks.Read(first + extent)
			wantCode(t, "Read", e, api.OK)
			if bytes.Equal(now, image) {
				right++
				continue
			}
			replaced(t, g.blocks, first+extent, image, func() { u.wantLost(t, blocks) })
		}
		if right == 0 || right > 2 {
			t.Errorf("%d images are the right one", right)
		}
	}
	u.wantTold(t)
	w.wantTold(t)
}

// sectors is where the nodes of a root stand.
func (g *ground) sectors(t *testing.T, root entry.Root) []uint32 {
	t.Helper()
	row := []api.Ref{root.Ref}
	var l []uint32
	for ; len(row) > 0; row = row[1:] {
		l = append(l, row[0].Sector)
		n, e := g.s.Load(row[0])
		wantCode(t, "Load", e, api.OK)
		row = append(row, n.Kids...)
	}
	return l
}

// P25.8: whichever node is turned, what is read is what was written last, or ErrIntegrity; and a write is done, or refused as a whole.
func TestTurnedNodes(t *testing.T) {
	u := written(t)
	told, read, refused := 0, 0, 0
	for _, sector := range u.sectors(t, u.x.Root()) {
		done := false
		turned(t, u.nodes, sector, func() {
			lost := len(u.asWritten(t))
			told += lost
			read += 20 + 40 + 60 + 20 + 60 - lost
			for _, c := range places() {
				if done = u.tries(t, c[0], c[1], api.ErrIntegrity); done {
					break
				}
				refused++
			}
		})
		if !done && len(u.asWritten(t)) > 0 {
			t.Fatal("what was turned back is not read")
		}
		if done { // its nodes are in other places now
			u = written(t)
		}
	}
	if told < 100 || read < 1000 || refused < 9 {
		t.Errorf("%d errors, %d blocks, %d writes refused", told, read, refused)
	}
}

// P25.8: old images of nodes, and of others in their place: what was written last, or ErrIntegrity.
func TestOldNodes(t *testing.T) {
	u := laid(t, 60, 30).fresh(t, 1)
	u.create(t, 1, 12)
	for block := range 12 {
		u.write(t, 1, block, api.OK)
	}
	images := shown(t, u.nodes)
	for block := range 12 {
		u.write(t, 1, block, api.OK)
	}
	images = append(images, shown(t, u.nodes)...)
	told := 0
	for _, sector := range u.sectors(t, u.x.Root()) {
		for _, image := range images {
			replaced(t, u.nodes, sector, image, func() { told += len(u.asWritten(t)) })
		}
	}
	// All of the old tree at once: its nodes are in their places, and its root is none's.
	for sector, image := range images[:u.nodes.Size()] {
		wantCode(t, "Tamper", u.nodes.Tamper(uint32(sector), image), api.OK)
	}
	if lost := len(u.asWritten(t)); lost != 12 || told < 100 {
		t.Errorf("%d blocks are not read; %d were not", lost, told)
	}
}

// P25.8: all of an old disk at once, blocks and nodes.
func TestOldDisks(t *testing.T) {
	u := written(t)
	nodes, blocks := shown(t, u.nodes), shown(t, u.blocks)
	for _, c := range places() {
		u.write(t, c[0], c[1], api.OK)
	}
	newer := shown(t, u.nodes)
	for sector, image := range blocks {
		wantCode(t, "Tamper", u.blocks.Tamper(uint32(sector), image), api.OK)
	}
	u.wantLost(t, places())
	for sector, image := range nodes {
		wantCode(t, "Tamper", u.nodes.Tamper(uint32(sector), image), api.OK)
	}
	if lost := u.asWritten(t); len(lost) != 20+40+60+20+60 {
		t.Errorf("%d blocks are not read", len(lost))
	}
	for sector, image := range newer {
		wantCode(t, "Tamper", u.nodes.Tamper(uint32(sector), image), api.OK)
	}
	u.wantLost(t, places())
}
