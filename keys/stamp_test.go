package keys_test

import (
	"math"
	"math/big"
	"math/rand/v2"
	"testing"

	"casemate/api"
	"casemate/keys"
)

// The first epoch and the first count that are too great.
const (
	tooLate = 1 << 24
	tooMany = 1 << 40
)

// stampByHand is a stamp, worked out in numbers of any length.
func stampByHand(epoch, count uint64) uint64 {
	v := new(big.Int).SetUint64(epoch)
	v.Mul(v, big.NewInt(1_099_511_627_776))
	return v.Add(v, new(big.Int).SetUint64(count)).Uint64()
}

func wantStamp(t *testing.T, epoch, count uint64) {
	t.Helper()
	stamp, e := keys.Stamp(epoch, count)
	if epoch >= tooLate || count >= tooMany {
		if stamp != 0 || e != api.ErrFull {
			t.Fatalf("Stamp(%d, %d): %d, %v", epoch, count, stamp, e)
		}
		return
	}
	if stamp != stampByHand(epoch, count) || e != api.OK {
		t.Fatalf("Stamp(%d, %d): %d, %v, want %d", epoch, count, stamp, e, stampByHand(epoch, count))
	}
	if a, b := keys.Parts(stamp); a != epoch || b != count {
		t.Fatalf("Parts(%d): %d, %d, want %d, %d", stamp, a, b, epoch, count)
	}
}

func epochs() []uint64 {
	return []uint64{0, 1, 2, 255, 1<<23 - 1, 1 << 23, tooLate - 2, tooLate - 1, tooLate, tooLate + 1, 1<<25 - 1, 1 << 32, tooMany, 1 << 63, math.MaxUint64}
}

func counts() []uint64 {
	return []uint64{0, 1, 2, 255, tooLate, 1 << 32, tooMany / 2, tooMany - 2, tooMany - 1, tooMany, tooMany + 1, 1<<41 - 1, 1 << 63, math.MaxUint64}
}

// P21.2: all these epochs with all these counts, and the parts of each stamp; the document's example.
func TestStamp(t *testing.T) {
	for _, epoch := range epochs() {
		for _, count := range counts() {
			wantStamp(t, epoch, count)
		}
	}
	if stamp, e := keys.Stamp(1, 2); stamp != 1099511627778 || e != api.OK {
		t.Errorf("Stamp(1, 2): %d, %v", stamp, e)
	}
	if stamp, e := keys.Stamp(tooLate-1, tooMany-1); stamp != math.MaxUint64 || e != api.OK {
		t.Errorf("the last stamp: %d, %v", stamp, e)
	}
}

// P21.2: the parts of any number are those of which it is the stamp.
func TestParts(t *testing.T) {
	chance := rand.New(rand.NewPCG(21, 2))
	stamps := []uint64{0, 1, tooMany - 1, tooMany, tooMany + 1, 1 << 63, math.MaxUint64 - 1, math.MaxUint64}
	for range 10000 {
		stamps = append(stamps, chance.Uint64()>>chance.IntN(64))
	}
	for _, stamp := range stamps {
		epoch, count := keys.Parts(stamp)
		if epoch >= tooLate || count >= tooMany || stampByHand(epoch, count) != stamp {
			t.Fatalf("Parts(%d): %d, %d", stamp, epoch, count)
		}
		if again, e := keys.Stamp(epoch, count); again != stamp || e != api.OK {
			t.Fatalf("Stamp(%d, %d): %d, %v", epoch, count, again, e)
		}
		wantStamp(t, chance.Uint64()>>(30+chance.IntN(34)), chance.Uint64()>>(15+chance.IntN(49)))
	}
}

// made is a counter of an epoch that may be.
func made(t *testing.T, epoch uint64) *keys.Counter {
	t.Helper()
	c, e := keys.Count(epoch)
	if c == nil || e != api.OK || c.Epoch() != epoch {
		t.Fatalf("Count(%d): %v, %v", epoch, c.Epoch(), e)
	}
	return c
}

func wantNext(t *testing.T, c *keys.Counter, want uint64) {
	t.Helper()
	if stamp, e := c.Next(); stamp != want || e != api.OK {
		t.Fatalf("Next of the epoch %d: %d, %v, want %d", c.Epoch(), stamp, e, want)
	}
}

// P21.3, P21.5: counters of all these epochs, or none; their stamps are 1, 2, and so on.
func TestCounter(t *testing.T) {
	for _, epoch := range epochs() {
		if epoch >= tooLate {
			if c, e := keys.Count(epoch); c != nil || e != api.ErrFull {
				t.Fatalf("Count(%d): %v, %v", epoch, c, e)
			}
			continue
		}
		c := made(t, epoch)
		for count := range uint64(3000) {
			wantNext(t, c, stampByHand(epoch, count+1))
			if c.Epoch() != epoch {
				t.Fatalf("the epoch %d has become %d", epoch, c.Epoch())
			}
		}
	}
}

// P21.3: counters that are nil, or that no call made.
func TestCounterNone(t *testing.T) {
	var c *keys.Counter
	for range 3 {
		for _, c := range []*keys.Counter{c, {}, new(keys.Counter)} {
			if stamp, e := c.Next(); stamp != 0 || e != api.ErrNil {
				t.Errorf("Next of none: %d, %v", stamp, e)
			}
			if c.Epoch() != 0 {
				t.Errorf("Epoch of none: %d", c.Epoch())
			}
		}
	}
}

// P21.5: many counters, asked in any order: no stamp comes twice, and each one's rise; counters of one epoch know nothing of one another.
func TestCounters(t *testing.T) {
	chance := rand.New(rand.NewPCG(21, 5))
	var list []*keys.Counter
	for _, epoch := range []uint64{0, 1, 2, 3, tooLate - 2, tooLate - 1} {
		list = append(list, made(t, epoch))
	}
	known, told := map[uint64]bool{}, make([]uint64, len(list))
	for range 5000 {
		i := chance.IntN(len(list))
		stamp, e := list[i].Next()
		told[i]++
		if e != api.OK || known[stamp] || stamp != stampByHand(list[i].Epoch(), told[i]) {
			t.Fatalf("Next of the epoch %d: %d, %v", list[i].Epoch(), stamp, e)
		}
		known[stamp] = true
		if _, e := keys.Count(tooLate + uint64(i)); e != api.ErrFull {
			t.Fatal("a counter of an epoch that may not be")
		}
	}
	wantNext(t, made(t, 3), stampByHand(3, 1))
}
