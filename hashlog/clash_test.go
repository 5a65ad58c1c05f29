package hashlog

import (
	"testing"

	"casemate/sha"
)

// A clash of true sums is not known. These tests lay texts at sums that are not theirs, so that the text whose sum it is clashes when it comes.

// lay lays a text at another one's sum.
func lay(l *Log, b, other string) {
	l.keep(sha.Sum([]byte(other)), []byte(b))
}

func wantClash(t *testing.T, l *Log, one, two string) {
	t.Helper()
	for range 2 { // what was handed out before is written over, and may not be the log's own
		a, b, ok := l.Clash()
		if !ok || string(a) != one || string(b) != two {
			t.Fatalf("Clash: %q %q %v, want %q %q", a, b, ok, one, two)
		}
		clear(a[:cap(a)])
		clear(b[:cap(b)])
	}
}

func wantNone(t *testing.T, l *Log) {
	t.Helper()
	if a, b, ok := l.Clash(); ok || len(a) != 0 || len(b) != 0 {
		t.Fatalf("Clash: %q %q %v", a, b, ok)
	}
}

// P8.2: both texts, the first one that came first, and both are in the log.
func TestClash(t *testing.T) {
	l := New()
	lay(l, "forged", "true")
	wantNone(t, l)
	if sum := l.Sum([]byte("true")); sum != sha.Sum([]byte("true")) {
		t.Errorf("Sum of a text that clashes: %x", sum)
	}
	wantClash(t, l, "forged", "true")
	if l.Count() != 2 || !l.Has([]byte("true")) {
		t.Errorf("the text that clashes is not in the log, which has %d", l.Count())
	}
}

// P8.1: a text is not in the log because another one of its sum is.
func TestHasOfAnothersSum(t *testing.T) {
	l := New()
	lay(l, "forged", "true")
	if l.Has([]byte("true")) {
		t.Error("a text is taken for another one of its sum")
	}
	if l.Count() != 1 {
		t.Errorf("Count: %d", l.Count())
	}
	wantNone(t, l)
}

// P8.2, P8.4: the clash whose second text came first stays, whatever clashes, or comes again, behind it.
func TestFirstClash(t *testing.T) {
	l := New()
	l.Sum([]byte("some"))
	lay(l, "forged one", "one")
	lay(l, "forged two", "two")
	l.Sum([]byte("other"))
	l.Sum([]byte("two"))
	wantClash(t, l, "forged two", "two")
	l.Sum([]byte("one"))
	wantClash(t, l, "forged two", "two")
	lay(l, "forged once more", "two")
	l.Sum([]byte("two"))
	lay(l, "forged two", "two")
	wantClash(t, l, "forged two", "two")
	if l.Count() != 7 {
		t.Errorf("Count: %d", l.Count())
	}
}

// P8.2: of three texts of one sum the first two are the clash.
func TestThreeOfOneSum(t *testing.T) {
	l := New()
	lay(l, "one", "three")
	lay(l, "one", "three")
	wantNone(t, l)
	lay(l, "two", "three")
	wantClash(t, l, "one", "two")
	for range 2 {
		l.Sum([]byte("three"))
		wantClash(t, l, "one", "two")
		if l.Count() != 3 || !l.Has([]byte("three")) {
			t.Errorf("the third text is not in the log, which has %d", l.Count())
		}
	}
}

// P8.2: the empty text may clash too.
func TestClashOfNothing(t *testing.T) {
	l := New()
	lay(l, "forged", "")
	l.Sum(nil)
	wantClash(t, l, "forged", "")
	l = New()
	lay(l, "", "true")
	l.Sum([]byte("true"))
	wantClash(t, l, "", "true")
}

// P8.3: two texts that were summed to one are the same, or there is a clash.
func TestSameOrClash(t *testing.T) {
	for _, forged := range []string{"true", "forged", "tru", "true ", ""} {
		l := New()
		lay(l, forged, "true")
		l.Sum([]byte("true"))
		if _, _, ok := l.Clash(); ok != (forged != "true") {
			t.Errorf("%q and %q at one sum: a clash is %v", forged, "true", ok)
		}
	}
}
