package disk_test

import (
	"bytes"
	"math"
	"testing"

	"casemate/api"
	"casemate/disk"
)

// made is a disk of a size that may be.
func made(t *testing.T, sectors int) *disk.Disk {
	t.Helper()
	d, e := disk.New(sectors)
	if d == nil || e != api.OK {
		t.Fatalf("New(%d): %v, %v", sectors, d, e)
	}
	return d
}

// block is a sector's bytes, unlike for each number below 65536.
func block(n int) []byte {
	b := bytes.Repeat([]byte{byte(n), byte(n >> 8)}, api.Sector/2)
	b[api.Sector-1] ^= 1
	return b
}

// noughts is what a sector shows at first.
func noughts() []byte {
	return make([]byte, api.Sector)
}

// register is a register's bytes, unlike for each number below 256.
func register(n byte) [64]byte {
	return [64]byte{n, 1, 63: n}
}

func wantCode(t *testing.T, what string, e, want api.Errno) {
	t.Helper()
	if e != want {
		t.Fatalf("%s: %v, want %v", what, e, want)
	}
}

func wantRead(t *testing.T, d *disk.Disk, s uint32, want []byte) {
	t.Helper()
	if b, e := d.Read(s); e != api.OK || !bytes.Equal(b, want) {
		t.Fatalf("Read(%d): % x.., %v, want % x..", s, b[:min(len(b), 2)], e, want[:2])
	}
}

func wantSure(t *testing.T, d *disk.Disk, s uint32, want []byte) {
	t.Helper()
	if b, e := d.Sure(s); e != api.OK || !bytes.Equal(b, want) {
		t.Fatalf("Sure(%d): % x.., %v, want % x..", s, b[:min(len(b), 2)], e, want[:2])
	}
}

func wantReg(t *testing.T, d *disk.Disk, want [64]byte) {
	t.Helper()
	if r, e := d.Reg(); e != api.OK || r != want {
		t.Fatalf("Reg: %x, %v, want %x", r, e, want)
	}
}

// wantCounts fails if so many do not wait, or if another number of calls changed something.
func wantCounts(t *testing.T, d *disk.Disk, waits, calls int) {
	t.Helper()
	if d.Waits() != waits || d.Calls() != calls {
		t.Fatalf("Waits and Calls: %d %d, want %d %d", d.Waits(), d.Calls(), waits, calls)
	}
}

func wantDown(t *testing.T, d *disk.Disk, want bool) {
	t.Helper()
	if d.Down() != want {
		t.Fatalf("Down: %v", !want)
	}
}

// write writes sectors, all of which may be written.
func write(t *testing.T, d *disk.Disk, s uint32, numbers ...int) {
	t.Helper()
	for _, n := range numbers {
		wantCode(t, "Write", d.Write(s, block(n)), api.OK)
	}
}

// wrongLengths is texts that are no sector's.
func wrongLengths() [][]byte {
	return [][]byte{nil, {}, {0}, make([]byte, 64), make([]byte, api.Sector-1), make([]byte, api.Sector+1), make([]byte, 2*api.Sector), make([]byte, api.MaxText), noughts()[:api.Sector-1], noughts()[:0]}
}

// noSectors is numbers of sectors that a disk of that size has not.
func noSectors(size int) []uint32 {
	return []uint32{uint32(size), uint32(size) + 1, uint32(size) + 256, api.MaxSectors, api.MaxSectors + 1, math.MaxInt32, math.MaxInt32 + 1, math.MaxUint32 - 1, math.MaxUint32}
}

// P11.1: sizes that may be, at both edges, and those that may not.
func TestSizes(t *testing.T) {
	for _, size := range []int{1, 2, 3, 64, 1000, api.MaxSectors - 1, api.MaxSectors} {
		d := made(t, size)
		if d.Size() != size {
			t.Errorf("Size: %d, want %d", d.Size(), size)
		}
		write(t, d, uint32(size-1), 7)
		wantRead(t, d, uint32(size-1), block(7))
	}
	for _, size := range []int{0, -1, -2, api.MaxSectors + 1, 2 * api.MaxSectors, math.MaxInt32, math.MaxInt32 + 1, math.MaxUint32 + 2, math.MaxInt, math.MinInt32, math.MinInt} {
		if d, e := disk.New(size); d != nil || e != api.ErrArg {
			t.Errorf("New(%d): %v, %v", size, d, e)
		}
	}
}

// P11.1: the document's example.
func TestExample(t *testing.T) {
	wantCode(t, "Write", made(t, 9).Write(9, noughts()), api.ErrSector)
}

// P11.1: all is noughts at first, nothing waits, and nothing is planned.
func TestAtFirst(t *testing.T) {
	d := made(t, 100)
	for s := range uint32(100) {
		wantRead(t, d, s, noughts())
		wantSure(t, d, s, noughts())
	}
	wantReg(t, d, [64]byte{})
	wantCounts(t, d, 0, 0)
	wantDown(t, d, false)
}

// P11.1: a write is shown, and waits; a flush makes it sure.
func TestWriteAndFlush(t *testing.T) {
	d := made(t, 5)
	write(t, d, 0, 10)
	write(t, d, 4, 11, 12)
	wantCounts(t, d, 3, 3)
	for s, want := range [][]byte{block(10), noughts(), noughts(), noughts(), block(12)} {
		wantRead(t, d, uint32(s), want)
		wantSure(t, d, uint32(s), noughts())
	}
	wantCode(t, "Flush", d.Flush(), api.OK)
	wantCounts(t, d, 0, 4)
	for s, want := range [][]byte{block(10), noughts(), noughts(), noughts(), block(12)} {
		wantRead(t, d, uint32(s), want)
		wantSure(t, d, uint32(s), want)
	}
	wantCode(t, "Write", d.Write(4, noughts()), api.OK)
	wantRead(t, d, 4, noughts())
	wantSure(t, d, 4, block(12))
	wantCode(t, "Flush", d.Flush(), api.OK)
	wantSure(t, d, 4, noughts())
	wantCode(t, "Flush", d.Flush(), api.OK)
	wantCounts(t, d, 0, 7)
}

// P11.1: the register is what was set, at once, and only that.
func TestRegister(t *testing.T) {
	d := made(t, 2)
	for n := range byte(3) {
		wantCode(t, "SetReg", d.SetReg(register(n)), api.OK)
		wantReg(t, d, register(n))
		wantCounts(t, d, 0, int(n)+1)
	}
	r, _ := d.Reg()
	r[0] = 99
	wantReg(t, d, register(2))
	write(t, d, 0, 1)
	wantCode(t, "Flush", d.Flush(), api.OK)
	wantCode(t, "Crash", d.Crash(nil), api.OK)
	wantReg(t, d, register(2))
	wantRead(t, d, 0, block(1))
}

// P11.1, P11.2: sectors that are not there, ahead of texts that have not 512 bytes; nothing has changed.
func TestWrongSectorsAndTexts(t *testing.T) {
	for _, size := range []int{1, 9, api.MaxSectors} {
		d := made(t, size)
		write(t, d, 0, 1)
		for _, s := range noSectors(size) {
			if b, e := d.Read(s); len(b) != 0 || e != api.ErrSector {
				t.Fatalf("Read(%d): %d bytes, %v", s, len(b), e)
			}
			if b, e := d.Sure(s); len(b) != 0 || e != api.ErrSector {
				t.Fatalf("Sure(%d): %d bytes, %v", s, len(b), e)
			}
			for _, b := range append(wrongLengths(), noughts()) {
				wantCode(t, "Write", d.Write(s, b), api.ErrSector)
				wantCode(t, "Tamper", d.Tamper(s, b), api.ErrSector)
			}
		}
		for _, b := range wrongLengths() {
			wantCode(t, "Write", d.Write(0, b), api.ErrForm)
			wantCode(t, "Tamper", d.Tamper(0, b), api.ErrForm)
		}
		wantRead(t, d, 0, block(1))
		wantSure(t, d, 0, noughts())
		wantCounts(t, d, 1, 1)
	}
}

// P11.2: of ten writes each choice of those that are kept, in their order.
func TestCrashKeeps(t *testing.T) {
	sectors := []uint32{0, 1, 0, 2, 1, 0, 2, 2, 1, 0} // of the writes, by their numbers
	for choice := range 1 << len(sectors) {
		d := made(t, 4)
		write(t, d, 1, 100)
		wantCode(t, "Flush", d.Flush(), api.OK)
		want := [][]byte{noughts(), block(100), noughts(), noughts()}
		for i, s := range sectors {
			write(t, d, s, i)
			if choice>>i&1 == 1 {
				want[s] = block(i)
			}
		}
		wantCode(t, "Crash", d.Crash([]byte{byte(choice), byte(choice >> 8)}), api.OK)
		wantCounts(t, d, 0, 12)
		for s, w := range want {
			wantRead(t, d, uint32(s), w)
			wantSure(t, d, uint32(s), w)
		}
	}
}

// P11.2: a keep that is nil, too short or too long.
func TestCrashKeepLengths(t *testing.T) {
	for _, c := range []struct {
		keep []byte
		kept []int
	}{
		{nil, nil},
		{[]byte{}, nil},
		{[]byte{255}[:0], nil},
		{[]byte{0}, nil},
		{[]byte{1}, []int{0}},
		{[]byte{128}, []int{7}},
		{[]byte{255}, []int{0, 1, 2, 3, 4, 5, 6, 7}},
		{[]byte{255, 255, 255}[:1], []int{0, 1, 2, 3, 4, 5, 6, 7}},
		{[]byte{2, 1}, []int{1, 8}},
		{[]byte{0, 128}, []int{15}},
		{[]byte{0, 0, 9}, []int{16, 19}},
		{[]byte{0, 0, 240, 255, 255}, nil},
		{bytes.Repeat([]byte{0x41}, api.MaxText), []int{0, 6, 8, 14, 16}},
	} {
		d := made(t, 21)
		want := make([][]byte, 21)
		for i := range 21 {
			want[i] = noughts()
		}
		for i := range 20 {
			write(t, d, uint32(i), i+1)
		}
		for _, i := range c.kept {
			want[i] = block(i + 1)
		}
		keep := bytes.Clone(c.keep)
		wantCode(t, "Crash", d.Crash(c.keep), api.OK)
		if !bytes.Equal(keep, c.keep) {
			t.Errorf("Crash turned its keep to % x", c.keep)
		}
		for s, w := range want {
			wantRead(t, d, uint32(s), w)
			wantSure(t, d, uint32(s), w)
		}
		wantCounts(t, d, 0, 20)
	}
}

// P11.2: the numbers of writes begin at 0 behind each flush and each crash, and a crash of nothing that waits changes nothing.
func TestCrashNumbersAnew(t *testing.T) {
	d := made(t, 3)
	write(t, d, 0, 1, 2, 3)
	wantCode(t, "Flush", d.Flush(), api.OK)
	write(t, d, 1, 4, 5)
	wantCode(t, "Crash", d.Crash([]byte{1}), api.OK)
	wantRead(t, d, 0, block(3))
	wantRead(t, d, 1, block(4))
	write(t, d, 2, 6, 7)
	wantCode(t, "Crash", d.Crash([]byte{1}), api.OK)
	wantRead(t, d, 2, block(6))
	for range 2 {
		wantCode(t, "Crash", d.Crash([]byte{255}), api.OK)
		for s, n := range []int{3, 4, 6} {
			wantRead(t, d, uint32(s), block(n))
			wantSure(t, d, uint32(s), block(n))
		}
	}
	wantCounts(t, d, 0, 8)
}

// P11.2, P11.4: what is turned is sure and shown, and no write of that sector waits; the others do, with numbers anew.
func TestTamper(t *testing.T) {
	for choice := range 16 {
		d := made(t, 4)
		write(t, d, 2, 1)
		wantCode(t, "Flush", d.Flush(), api.OK)
		wantCode(t, "SetReg", d.SetReg(register(5)), api.OK)
		write(t, d, 0, 2)
		write(t, d, 2, 3)
		write(t, d, 1, 4)
		write(t, d, 2, 5, 6)
		write(t, d, 0, 7)
		wantCounts(t, d, 6, 9)
		wantCode(t, "Tamper", d.Tamper(2, block(8)), api.OK)
		wantCounts(t, d, 3, 9)
		wantRead(t, d, 0, block(7))
		wantRead(t, d, 1, block(4))
		wantRead(t, d, 2, block(8))
		wantSure(t, d, 0, noughts())
		wantSure(t, d, 2, block(8))
		write(t, d, 1, 9)
		want := [][]byte{noughts(), noughts(), block(8), noughts()}
		for i, w := range []struct{ s, n int }{{0, 2}, {1, 4}, {0, 7}, {1, 9}} {
			if choice>>i&1 == 1 {
				want[w.s] = block(w.n)
			}
		}
		wantCode(t, "Crash", d.Crash([]byte{byte(choice)}), api.OK)
		for s, w := range want {
			wantRead(t, d, uint32(s), w)
			wantSure(t, d, uint32(s), w)
		}
		wantReg(t, d, register(5))
	}
}

// P11.2, P11.4: a sector that never was written, one of which all writes are gone, and one that is written behind it.
func TestTamperAlone(t *testing.T) {
	d := made(t, 3)
	wantCode(t, "Tamper", d.Tamper(1, block(1)), api.OK)
	wantRead(t, d, 1, block(1))
	wantSure(t, d, 1, block(1))
	write(t, d, 0, 2, 3)
	wantCode(t, "Tamper", d.Tamper(0, noughts()), api.OK)
	wantCounts(t, d, 0, 2)
	wantRead(t, d, 0, noughts())
	write(t, d, 0, 4)
	wantRead(t, d, 0, block(4))
	wantSure(t, d, 0, noughts())
	wantCode(t, "Crash", d.Crash(nil), api.OK)
	wantRead(t, d, 0, noughts())
	write(t, d, 0, 5)
	wantCode(t, "Flush", d.Flush(), api.OK)
	wantCode(t, "Tamper", d.Tamper(0, block(6)), api.OK)
	wantCode(t, "Crash", d.Crash([]byte{255}), api.OK)
	wantRead(t, d, 0, block(6))
	wantRead(t, d, 1, block(1))
}

// P11.4: what is handed in is not kept, and what is handed out is memory of its own.
func TestMemory(t *testing.T) {
	d := made(t, 3)
	room := append(block(1), 9, 9, 9)
	wantCode(t, "Write", d.Write(0, room[:api.Sector]), api.OK)
	wantCode(t, "Tamper", d.Tamper(1, room[:api.Sector]), api.OK)
	if !bytes.Equal(room, append(block(1), 9, 9, 9)) {
		t.Fatal("what was handed in is turned")
	}
	clear(room)
	for range 2 {
		for s := range uint32(3) {
			for _, read := range []func(uint32) ([]byte, api.Errno){d.Read, d.Sure} {
				b, _ := read(s)
				for i := range b[:cap(b)] {
					b[:cap(b)][i] = 0xee
				}
			}
		}
		wantRead(t, d, 0, block(1))
		wantRead(t, d, 1, block(1))
		wantRead(t, d, 2, noughts())
		wantSure(t, d, 2, noughts())
		wantCode(t, "Flush", d.Flush(), api.OK)
	}
	wantSure(t, d, 0, block(1))
}

// P11.3, P11.4: each disk has its own sectors.
func TestApart(t *testing.T) {
	a, b := made(t, 2), made(t, 2)
	write(t, a, 0, 1)
	write(t, b, 0, 2)
	wantCode(t, "Tamper", a.Tamper(1, block(3)), api.OK)
	wantCode(t, "Flush", b.Flush(), api.OK)
	wantCode(t, "SetReg", b.SetReg(register(1)), api.OK)
	wantCode(t, "Crash", a.Crash(nil), api.OK)
	wantRead(t, a, 0, noughts())
	wantRead(t, a, 1, block(3))
	wantReg(t, a, [64]byte{})
	wantRead(t, b, 0, block(2))
	wantRead(t, b, 1, noughts())
}
