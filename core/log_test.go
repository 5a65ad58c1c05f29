package core_test

import (
	"reflect"
	"slices"
	"testing"
	"unsafe"

	"casemate/api"
	"casemate/core"
	"casemate/hashlog"
)

// inside is a field of a log, which no call of it lays open.
func inside[T any](log *hashlog.Log, name string) *T {
	f := reflect.ValueOf(log).Elem().FieldByName(name)
	return (*T)(unsafe.Pointer(f.UnsafeAddr()))
}

// P27.3: a clash of the log. True ones are not known, so that one is laid into the log's own memory.
func TestClash(t *testing.T) {
	b := peopled(t)
	other := mount(t, shown(t, b.d), b.l, b.writes)
	sum := b.log.Sum(text(1))
	texts := *inside[map[api.Sum][][]byte](b.log, "texts")
	texts[sum] = append(texts[sum], []byte("forged"))
	*inside[api.Sum](b.log, "clash") = sum
	*inside[bool](b.log, "clashed") = true
	if _, _, ok := b.log.Clash(); !ok {
		t.Fatal("the clash was not laid")
	}
	if !b.c.Clash() || other.c.Clash() {
		t.Errorf("Clash: %v, of another log %v", b.c.Clash(), other.c.Clash())
	}
}

// wantSummed fails if a log has not summed what a sector shows.
func (b *bed) wantSummed(t *testing.T, log *hashlog.Log, sector uint32) {
	t.Helper()
	x, e := b.d.Read(sector)
	wantCode(t, "Read", e, api.OK)
	if !log.Has(x) {
		t.Fatalf("the log has not what the sector %d shows", sector)
	}
}

// P27.8, P4: what is read, and what is written, of heads and slots is summed by the log, as it was and turned: else the log would not have the two texts of one sum.
func TestSummed(t *testing.T) {
	b := peopled(t)
	b.rotate(t, 8)
	for id, u := range b.l {
		b.wantSummed(t, b.log, uint32(2*id+u.place))
	}
	b.wantSummed(t, b.log, 0)
	b.wantSummed(t, b.log, 1)
	which := uint32(register(t, b.d).Which)
	turned(t, b.d, which, func() {
		log := hashlog.New()
		_, e := core.Mount(b.d, log)
		wantCode(t, "Mount", e, api.ErrIntegrity)
		b.wantSummed(t, log, which)
	})
	b.again(t, nil)
	b.wantSummed(t, b.log, which)
	b.view(t, 8)
	b.wantSummed(t, b.log, uint32(16+b.l[8].place))
	turned(t, b.d, 5, func() {
		_, e := b.c.Open(2, b.l[2].outer)
		wantCode(t, "Open", e, api.ErrIntegrity)
		b.wantSummed(t, b.log, 5)
	})
	// A slot that is blank now was summed all the same, where it was written.
	if slices.Equal(b.l[8].slot(), make([]byte, 512)) || !b.log.Has(b.l[8].slot()) {
		t.Error("the slot was not summed")
	}
}
