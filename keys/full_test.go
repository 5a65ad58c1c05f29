package keys

import (
	"testing"

	"casemate/api"
)

// P21.3: the last stamps of an epoch. Nobody can wait for 2^40 - 1 of them, so the counter is told that it has gone so far.
func TestFull(t *testing.T) {
	for _, epoch := range []uint64{0, 1, 1<<24 - 1} {
		c, _ := Count(epoch)
		c.told = 1<<40 - 4
		for count := uint64(1<<40 - 3); count < 1<<40; count++ {
			if stamp, e := c.Next(); stamp != epoch*(1<<40)+count || e != api.OK {
				t.Fatalf("Next of the epoch %d: %d, %v, want the count %d", epoch, stamp, e, count)
			}
		}
		for range 5 {
			if stamp, e := c.Next(); stamp != 0 || e != api.ErrFull {
				t.Fatalf("Next of a full counter: %d, %v", stamp, e)
			}
		}
		if c.Epoch() != epoch {
			t.Errorf("the epoch of a full counter: %d", c.Epoch())
		}
	}
}
