package seal_test

import (
	"bytes"
	"math/rand/v2"
	"testing"

	"casemate/api"
	"casemate/keys"
	"casemate/seal"
)

func wantSealed(t *testing.T, s *seal.Sealer, master api.Key, number, stamp uint64, plain []byte) {
	t.Helper()
	got, b, e := s.Seal(plain)
	if got != stamp || e != api.OK || !bytes.Equal(b, byHand(t, master, number, stamp, plain)) {
		t.Fatalf("Seal for the volume %d: the stamp %d, %d bytes, %v, want the stamp %d", number, got, len(b), e, stamp)
	}
	if back, e := s.Open(stamp, b); e != api.OK || !bytes.Equal(back, plain) {
		t.Fatalf("Open for the volume %d with the stamp %d: %v", number, stamp, e)
	}
}

func wantNotSealed(t *testing.T, s *seal.Sealer, plain []byte, want api.Errno) {
	t.Helper()
	if stamp, b, e := s.Seal(plain); stamp != 0 || len(b) != 0 || e != want {
		t.Fatalf("Seal of %d bytes: %d, %d bytes, %v, want %v", len(plain), stamp, len(b), e, want)
	}
}

func wantNotOpened(t *testing.T, s *seal.Sealer, b []byte, want api.Errno) {
	t.Helper()
	if plain, e := s.Open(1, b); len(plain) != 0 || e != want {
		t.Fatalf("Open of %d bytes: %d bytes, %v, want %v", len(b), len(plain), e, want)
	}
}

// P22.2, P22.3: sealers of all these volumes seal with their counter's next stamps.
func TestSealer(t *testing.T) {
	for _, master := range masters() {
		for i, number := range numbers() {
			epoch := []uint64{0, 1, 2, 1 << 23, 1<<24 - 1}[i]
			s := seal.New(master, number, counter(t, epoch))
			for j, plain := range blocks() {
				wantSealed(t, s, master, number, epoch<<40+uint64(j)+1, plain)
			}
		}
	}
}

// P22.2: no stamp is told for what is no block, and none is left out.
func TestSealerForm(t *testing.T) {
	c := counter(t, 4)
	s := seal.New(rising(0), 3, c)
	next := uint64(4 << 40)
	for _, length := range []int{511, 513, 0, 1, 16, 496, 528, 1024, api.MaxText} {
		b := make([]byte, length, length+512)
		wantNotSealed(t, s, b, api.ErrForm)
		wantNotOpened(t, s, b, api.ErrForm)
		wantNotSealed(t, s, nil, api.ErrForm)
		wantNotOpened(t, s, nil, api.ErrForm)
		next++
		wantSealed(t, s, rising(0), 3, next, blocks()[3])
	}
	if stamp, e := c.Next(); stamp != next+1 || e != api.OK {
		t.Errorf("the counter's next stamp is %d, %v, want %d", stamp, e, next+1)
	}
}

// P22.2: sealers that are nil, or that no call made.
func TestSealerNone(t *testing.T) {
	var none *seal.Sealer
	for _, s := range []*seal.Sealer{none, {}, new(seal.Sealer)} {
		for _, b := range [][]byte{nil, make([]byte, 511), make([]byte, 512), make([]byte, 513)} {
			wantNotSealed(t, s, b, api.ErrNil)
			wantNotOpened(t, s, b, api.ErrNil)
		}
	}
}

// P22.2: a sealer of a counter that is nil, or that no call made, seals nothing, but opens.
func TestSealerNoCounter(t *testing.T) {
	for _, c := range []*keys.Counter{nil, {}} {
		s := seal.New(rising(9), 1, c)
		if s == nil {
			t.Fatal("New is nil")
		}
		for _, length := range []int{0, 511, 513} {
			wantNotSealed(t, s, make([]byte, length), api.ErrForm)
			wantNotOpened(t, s, make([]byte, length), api.ErrForm)
		}
		for range 3 {
			wantNotSealed(t, s, make([]byte, 512), api.ErrNil)
		}
		for _, stamp := range stamps() {
			b := byHand(t, rising(9), 1, stamp, blocks()[3])
			if plain, e := s.Open(stamp, b); e != api.OK || !bytes.Equal(plain, blocks()[3]) {
				t.Errorf("Open with the stamp %d: %v", stamp, e)
			}
		}
	}
}

// P22.2: what a sealer sealed is opened by others of its volume, of whatever counter, and by Open, but not by those of other volumes.
func TestSealerOthers(t *testing.T) {
	s := seal.New(rising(1), 5, counter(t, 1))
	stamp, b, e := s.Seal(blocks()[3])
	if e != api.OK {
		t.Fatal(e)
	}
	if plain, e := seal.New(rising(1), 5, counter(t, 9)).Open(stamp, b); e != api.OK || !bytes.Equal(plain, blocks()[3]) {
		t.Errorf("Open by another sealer: %v", e)
	}
	if !bytes.Equal(opened(t, rising(1), 5, stamp, b), blocks()[3]) || !bytes.Equal(sealed(t, rising(1), 5, stamp, blocks()[3]), b) {
		t.Error("Seal and Open do not know what a sealer sealed")
	}
	for _, other := range []*seal.Sealer{seal.New(rising(2), 5, counter(t, 1)), seal.New(rising(1), 6, counter(t, 1))} {
		if plain, e := other.Open(stamp, b); e != api.OK || bytes.Equal(plain, blocks()[3]) {
			t.Errorf("Open by a sealer of another volume: %v", e)
		}
	}
	if plain, e := s.Open(stamp+1, b); e != api.OK || bytes.Equal(plain, blocks()[3]) {
		t.Errorf("Open with another stamp: %v", e)
	}
}

// P22.4: sealers of one counter, and of counters of unlike epochs, in any order: no stamp comes twice, so the same block is never the same when it is sealed.
func TestOnce(t *testing.T) {
	chance := rand.New(rand.NewPCG(22, 4))
	type user struct {
		sealer *seal.Sealer
		number uint64
		epoch  uint64
	}
	var users []user
	told := map[uint64]uint64{}
	for _, epoch := range []uint64{0, 1, 2, 1<<24 - 1} {
		c := counter(t, epoch)
		for number := range uint64(3) {
			users = append(users, user{seal.New(rising(8), number, c), number, epoch})
		}
	}
	known, known2 := map[uint64]bool{}, map[string]bool{}
	for range 400 {
		u := users[chance.IntN(len(users))]
		if chance.IntN(3) == 0 {
			wantNotSealed(t, u.sealer, make([]byte, 511), api.ErrForm)
		}
		stamp, b, e := u.sealer.Seal(blocks()[1])
		told[u.epoch]++
		if e != api.OK || stamp != u.epoch<<40+told[u.epoch] || known[stamp] || known2[string(b)] {
			t.Fatalf("Seal of the volume %d, epoch %d: %d, %v", u.number, u.epoch, stamp, e)
		}
		known[stamp], known2[string(b)] = true, true
		if !bytes.Equal(opened(t, rising(8), u.number, stamp, b), blocks()[1]) {
			t.Fatalf("the block of the stamp %d is not what it was", stamp)
		}
	}
}

// P22.2: blocks stay as they are, and share nothing with what a sealer tells.
func TestSealerApart(t *testing.T) {
	s := seal.New(rising(4), 4, counter(t, 4))
	plain := blocks()[3]
	stamp, b, e := s.Seal(plain)
	if e != api.OK || !bytes.Equal(plain, blocks()[3]) || cap(b) != 512 {
		t.Fatalf("Seal changed the block: %v", e)
	}
	clear(plain)
	back, e := s.Open(stamp, b)
	clear(b)
	if e != api.OK || !bytes.Equal(back, blocks()[3]) {
		t.Errorf("what was opened has changed: %v", e)
	}
}
