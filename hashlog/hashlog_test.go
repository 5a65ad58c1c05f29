package hashlog_test

import (
	"bytes"
	"crypto/sha256"
	"testing"

	"casemate/api"
	"casemate/hashlog"
	"casemate/sha"
)

// text is n bytes that are not all alike, others for each seed.
func text(n int, seed uint32) []byte {
	b := make([]byte, n)
	v := seed*2654435761 + 1
	for i := range b {
		v = v*1664525 + 1013904223
		b[i] = byte(v >> 24)
	}
	return b
}

// texts are unlike texts of many lengths, the empty one among them, some of which begin as others do.
func texts() [][]byte {
	l := [][]byte{{}}
	for _, n := range []int{1, 2, 55, 56, 63, 64, 65, 511, 512, 513, api.MaxText, api.MaxText + 1} {
		l = append(l, make([]byte, n), text(n, 1), text(n, 2))
	}
	return l
}

func wantCount(t *testing.T, l *hashlog.Log, want int) {
	t.Helper()
	if got := l.Count(); got != want {
		t.Errorf("Count: %d, want %d", got, want)
	}
}

func wantHas(t *testing.T, l *hashlog.Log, b []byte, want bool) {
	t.Helper()
	if got := l.Has(b); got != want {
		t.Errorf("Has of %d bytes: %v, want %v", len(b), got, want)
	}
}

func wantSum(t *testing.T, l *hashlog.Log, b []byte) {
	t.Helper()
	if got, want := l.Sum(b), api.Sum(sha256.Sum256(b)); got != want || got != sha.Sum(b) {
		t.Errorf("Sum of %d bytes: %x, want %x", len(b), got, want)
	}
}

func wantNoClash(t *testing.T, l *hashlog.Log) {
	t.Helper()
	if a, b, ok := l.Clash(); ok || len(a) != 0 || len(b) != 0 {
		t.Errorf("Clash: %v %v %v", a, b, ok)
	}
}

// P8.1: a log without texts has none, not even the empty one.
func TestNew(t *testing.T) {
	l := hashlog.New()
	wantCount(t, l, 0)
	for _, b := range append(texts(), nil) {
		wantHas(t, l, b, false)
	}
	wantNoClash(t, l)
	wantCount(t, l, 0)
}

// P8.1: the document's example.
func TestExample(t *testing.T) {
	l := hashlog.New()
	wantSum(t, l, []byte("a"))
	wantSum(t, l, []byte("b"))
	wantSum(t, l, []byte("a"))
	wantCount(t, l, 2)
}

// P8.1, P8.4: each text is in the log from its sum on, and stays; one that comes again adds nothing.
func TestTexts(t *testing.T) {
	l, all := hashlog.New(), texts()
	for i, b := range all {
		wantHas(t, l, b, false)
		wantSum(t, l, b)
		wantHas(t, l, b, true)
		wantCount(t, l, i+1)
		if i > 0 {
			wantHas(t, l, all[i-1], true)
			wantSum(t, l, all[i-1])
			wantCount(t, l, i+1)
		}
	}
	for range 2 {
		for _, b := range all {
			wantHas(t, l, b, true)
			wantSum(t, l, b)
		}
		wantCount(t, l, len(all))
	}
	for _, b := range [][]byte{text(3, 1), make([]byte, 3), append(text(512, 1), 0), text(512, 3)} {
		wantHas(t, l, b, false)
	}
	wantNoClash(t, l)
}

// P8.1: nothing is the empty text, whichever of both came.
func TestEmptyText(t *testing.T) {
	for _, first := range [][]byte{nil, {}} {
		l := hashlog.New()
		wantSum(t, l, first)
		wantCount(t, l, 1)
		for _, b := range [][]byte{nil, {}, text(9, 1)[:0]} {
			wantHas(t, l, b, true)
			wantSum(t, l, b)
		}
		wantHas(t, l, []byte{0}, false)
		wantCount(t, l, 1)
		wantNoClash(t, l)
	}
}

// P8.1: asking puts nothing into the log.
func TestAskingAddsNothing(t *testing.T) {
	l := hashlog.New()
	l.Sum([]byte("a"))
	for range 3 {
		wantHas(t, l, []byte("b"), false)
		wantHas(t, l, []byte("a"), true)
		wantNoClash(t, l)
		wantCount(t, l, 1)
	}
}

// P8.1: of nil, or a log that no call made, there is the sum alone, however often it is asked.
func TestNoLog(t *testing.T) {
	var none *hashlog.Log
	for _, l := range []*hashlog.Log{none, {}, new(hashlog.Log)} {
		for range 2 {
			for _, b := range append(texts(), nil) {
				wantSum(t, l, b)
				wantHas(t, l, b, false)
			}
			wantCount(t, l, 0)
			wantNoClash(t, l)
		}
	}
}

// P8.4: the log keeps a text as it was summed, whatever becomes of the memory in which it came, and of what lies behind its end.
func TestOwnCopy(t *testing.T) {
	l, room := hashlog.New(), text(100, 1)
	was := bytes.Clone(room)
	l.Sum(room[:40])
	wantHas(t, l, room[:41], false)
	if !bytes.Equal(room, was) {
		t.Fatal("Sum writes into what it was handed")
	}
	room[40]++
	wantHas(t, l, room[:40], true)
	room[0]++
	wantHas(t, l, room[:40], false)
	wantHas(t, l, was[:40], true)
	l.Sum(room[:40])
	wantCount(t, l, 2)
	room[0]++
	wantHas(t, l, was[:40], true)
	wantSum(t, l, was[:40])
	wantCount(t, l, 2)
	wantNoClash(t, l)
}

// P8.1: each log has its own texts.
func TestApart(t *testing.T) {
	a, b := hashlog.New(), hashlog.New()
	a.Sum([]byte("a"))
	b.Sum([]byte("b"))
	b.Sum([]byte("c"))
	wantCount(t, a, 1)
	wantCount(t, b, 2)
	wantHas(t, a, []byte("b"), false)
	wantHas(t, b, []byte("a"), false)
}

// P8.3: of many texts, two that have one sum are the same, since the log has no clash.
func TestManyTexts(t *testing.T) {
	l, was := hashlog.New(), map[api.Sum]string{}
	for round := range 2 {
		for i := range 5000 {
			b := text(i%97, uint32(i))
			sum := l.Sum(b)
			if other, ok := was[sum]; ok && other != string(b) {
				t.Fatalf("%x and %x have one sum", other, b)
			}
			was[sum] = string(b)
		}
		if l.Count() != len(was) {
			t.Errorf("behind the round %d there are %d texts, want %d", round, l.Count(), len(was))
		}
	}
	wantNoClash(t, l)
}
