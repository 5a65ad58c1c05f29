package task

import (
	"testing"

	"casemate/api"
	"casemate/reply"
)

// P30.2: a status of which a number does not fit is ErrForm alone. No core has so many extents or blocks that this can be asked from without.
func TestToldTooMuch(t *testing.T) {
	for _, s := range []reply.Status{{Charge: 65536}, {Reserve: -1}, {Quota: 1 << 32}, {Blocks: [8]int{7: 65536}}, {Charge: 1, Used: [8]int{-1}}} {
		if a := told(s); a.E != api.ErrForm || a.Number != 0 || len(a.Data) > 0 {
			t.Errorf("%v: %v", s, a)
		}
	}
	if a := told(reply.Status{Charge: 65535}); a.E != api.OK || a.Number != 0 || len(a.Data) != 38 {
		t.Errorf("a status that fits: %v", a)
	}
}
