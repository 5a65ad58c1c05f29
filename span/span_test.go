package span_test

import (
	"math"
	"testing"

	"casemate/node"
	"casemate/span"
)

// wantAll fails if not each key from from on to to is told of its way, and of no other place.
func wantAll(t *testing.T, n node.Node, from, to uint64) {
	t.Helper()
	for i := range n.Keys {
		first, last, some := span.Of(n, i, from, to)
		if !some && (first != 0 || last != 0) || some && first > last {
			t.Errorf("of %d to %d the place %d of %v has %d to %d, %v", from, to, i, n.Keys, first, last, some)
		}
		for key := range uint64(40) {
			want := key >= from && key <= to && node.Way(n, key) == i
			if got := some && key >= first && key <= last; got != want {
				t.Errorf("of %d to %d the place %d of %v has %d: %v", from, to, i, n.Keys, key, got)
			}
		}
	}
}

func TestOf(t *testing.T) {
	for _, keys := range [][]uint64{{5, 9}, {0, 1}, {0, 20}, {5, 6, 7, 30}, {1, 12, 13, 14, 36}} {
		for from := range uint64(40) {
			for to := range uint64(40) {
				wantAll(t, node.Node{Keys: keys}, from, to)
			}
		}
	}
}

// All keys lead somewhere, the greatest one, too.
func TestOfEdges(t *testing.T) {
	n := node.Node{Keys: []uint64{5, 9, math.MaxUint64}}
	for i, want := range [][2]uint64{{0, 8}, {9, math.MaxUint64 - 1}, {math.MaxUint64, math.MaxUint64}} {
		if first, last, some := span.Of(n, i, 0, math.MaxUint64); !some || first != want[0] || last != want[1] {
			t.Errorf("the place %d has %d to %d, %v", i, first, last, some)
		}
	}
}

// Places that are not there have no keys, nor have nodes whose keys do not rise where these stand behind each other.
func TestOfWrong(t *testing.T) {
	for _, i := range []int{-1, 2, math.MinInt, math.MaxInt} {
		if first, last, some := span.Of(node.Node{Keys: []uint64{5, 9}}, i, 0, math.MaxUint64); some || first != 0 || last != 0 {
			t.Errorf("the place %d has %d to %d", i, first, last)
		}
	}
	if _, _, some := span.Of(node.Node{}, 0, 0, 9); some {
		t.Error("a node without keys has some")
	}
	for i := range 2 {
		if _, _, some := span.Of(node.Node{Keys: []uint64{7, 0, 0}}, i, 0, math.MaxUint64); some {
			t.Errorf("the place %d has some", i)
		}
	}
}
