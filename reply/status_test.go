package reply_test

import (
	"bytes"
	"math/rand/v2"
	"testing"

	"casemate/api"
	"casemate/reply"
)

// P29.2: where each number stands.
func TestStatusExample(t *testing.T) {
	s := reply.Status{Charge: 1, Reserve: 2, Quota: 0x0304, Blocks: [8]int{5, 0, 0, 0, 0, 0, 0, 0x0607}, Used: [8]int{8, 9}}
	want := make([]byte, 38)
	copy(want, []byte{0, 1, 0, 2, 3, 4, 0, 5, 0, 8, 0, 0, 0, 9})
	want[34], want[35] = 6, 7
	if b := wantStatus(t, s); !bytes.Equal(b, want) {
		t.Errorf("the bytes of %v: % x", s, b)
	}
	if b := wantStatus(t, reply.Status{}); !bytes.Equal(b, make([]byte, 38)) {
		t.Errorf("the bytes of noughts: % x", b)
	}
}

// P29.2: each number at its edges, and far outside, beside noughts and beside others.
func TestStatusNumbers(t *testing.T) {
	var full reply.Status
	for i, n := range numbersOf(&full) {
		*n = 65535 - i
	}
	for _, s := range []reply.Status{{}, full} {
		for i, n := range numbersOf(&s) {
			was := *n
			for _, x := range short() {
				*n = x
				wantStatus(t, s)
			}
			for _, x := range append(far(), 65536, 65537, 1<<17, 1<<24) {
				*n = x
				wantNoStatus(t, s)
			}
			*n = -1
			other := numbersOf(&s)[(i+7)%19]
			wasOther := *other
			*other = 65536
			wantNoStatus(t, s)
			*n, *other = was, wasOther
		}
	}
}

// P29.2, P29.3: statuses that are unlike in one number have unlike bytes, and go there and back.
func TestUnlikeStatuses(t *testing.T) {
	known := map[string]bool{}
	count := 1
	var s reply.Status
	known[string(wantStatus(t, s))] = true
	for _, n := range numbersOf(&s) {
		for _, x := range short()[1:] {
			*n = x
			known[string(wantStatus(t, s))] = true
			count++
		}
		*n = 0
	}
	if len(known) != count {
		t.Errorf("%d statuses have %d unlike bytes", count, len(known))
	}
	chance := rand.New(rand.NewPCG(29, 2))
	for range 2000 {
		for _, n := range numbersOf(&s) {
			*n = chance.IntN(65536)
		}
		wantStatus(t, s)
	}
}

// P29.2: bytes of all lengths but 38 are no status', any 38 are one's.
func TestReadStatus(t *testing.T) {
	wantUnread(t, nil)
	long := bytes.Repeat([]byte{1}, 65536)
	for length := range 200 {
		if length != 38 {
			wantUnread(t, long[:length])
			wantUnread(t, make([]byte, length))
		}
	}
	for _, length := range []int{512, 4096, 65536} {
		wantUnread(t, long[:length])
	}
	chance := rand.New(rand.NewPCG(29, 4))
	for range 2000 {
		b := noise(chance, 38)
		s, e := reply.ReadStatus(b)
		if e != api.OK || !bytes.Equal(wantStatus(t, s), b) {
			t.Fatalf("ReadStatus of % x: %v, %v", b, s, e)
		}
	}
}

// P29.2: what is told or taken is not shared with the caller.
func TestStatusApart(t *testing.T) {
	s := reply.Status{Charge: 1, Blocks: [8]int{2}}
	one, _ := reply.WriteStatus(s)
	two, _ := reply.WriteStatus(s)
	clear(one)
	b := behind(two, 8, 8)
	got, e := reply.ReadStatus(b)
	if e != api.OK || got != s || !bytes.Equal(b[:40], append(two, 8, 8)) {
		t.Errorf("ReadStatus: %v, %v", got, e)
	}
	clear(b)
	if got != s {
		t.Error("ReadStatus shares what it takes")
	}
}
