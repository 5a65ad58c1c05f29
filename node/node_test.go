package node_test

import (
	"math"
	"math/rand/v2"
	"testing"

	"casemate/api"
	"casemate/node"
)

// val is a value, unlike for each number below 65536.
func val(n int) [44]byte {
	return [44]byte{byte(n), byte(n >> 8), 1, 43: byte(n) ^ 5}
}

// ref is a reference, unlike for each number below 65536.
func ref(n int) api.Ref {
	return api.Ref{Sector: 0x01020304 + uint32(n), Sum: api.Sum{byte(n), byte(n >> 8), 2, 31: byte(n) ^ 9}}
}

// vals is so many values, from a number on.
func vals(from, count int) [][44]byte {
	var l [][44]byte
	for i := range count {
		l = append(l, val(from+i))
	}
	return l
}

// refs is so many references, from a number on.
func refs(from, count int) []api.Ref {
	var l []api.Ref
	for i := range count {
		l = append(l, ref(from+i))
	}
	return l
}

// leafOf is a leaf of keys, with values by their places.
func leafOf(keys ...uint64) node.Node {
	return node.Node{Leaf: true, Keys: keys, Vals: vals(0, len(keys))}
}

// innerOf is a node that is no leaf, with kids by their places.
func innerOf(keys ...uint64) node.Node {
	return node.Node{Keys: keys, Kids: refs(0, len(keys))}
}

// ofKind is one of both.
func ofKind(leaf bool, keys ...uint64) node.Node {
	if leaf {
		return leafOf(keys...)
	}
	return innerOf(keys...)
}

// tens is so many keys: 10, 20, 30 ..
func tens(count int) []uint64 {
	keys := []uint64{}
	for i := range count {
		keys = append(keys, 10*uint64(i+1))
	}
	return keys
}

// edges is the least and the greatest number of keys of a kind.
func edges(leaf bool) (least, most int) {
	if leaf {
		return 1, api.MaxLeaf
	}
	return 2, api.MaxKids
}

// isZero tells whether a node is the zero one.
func isZero(n node.Node) bool {
	return !n.Leaf && len(n.Keys) == 0 && len(n.Vals) == 0 && len(n.Kids) == 0
}

func wantNode(t *testing.T, what string, got, want node.Node) {
	t.Helper()
	if !node.Same(got, want) {
		t.Fatalf("%s: %v, want %v", what, got, want)
	}
}

func wantZero(t *testing.T, what string, n node.Node) {
	t.Helper()
	if !isZero(n) {
		t.Fatalf("%s: %v, want the zero node", what, n)
	}
}

// wrongNodes is nodes that may not be, by what is wrong with them.
func wrongNodes() map[string]node.Node {
	return map[string]node.Node{
		"the zero node":                 {},
		"a leaf of nothing":             {Leaf: true},
		"a leaf of lists of nothing":    {Leaf: true, Keys: []uint64{}, Vals: [][44]byte{}, Kids: []api.Ref{}},
		"a leaf of 10 keys":             leafOf(tens(api.MaxLeaf + 1)...),
		"a leaf of 257 keys":            leafOf(tens(257)...),
		"one kid":                       innerOf(1),
		"12 kids":                       innerOf(tens(api.MaxKids + 1)...),
		"258 kids":                      innerOf(tens(258)...),
		"a leaf of equal keys":          leafOf(1, 1),
		"a leaf of keys that fall":      leafOf(2, 1),
		"a leaf of a last key too low":  leafOf(1, 2, 3, 3),
		"kids of equal keys":            innerOf(0, 0),
		"kids of keys that fall":        innerOf(math.MaxUint64, 0),
		"kids of a middle key too low":  innerOf(1, 5, 4, 6),
		"a leaf without values":         {Leaf: true, Keys: tens(2)},
		"a leaf of one value too few":   {Leaf: true, Keys: tens(3), Vals: vals(0, 2)},
		"a leaf of one value too many":  {Leaf: true, Keys: tens(3), Vals: vals(0, 4)},
		"a leaf of kids":                {Leaf: true, Keys: tens(3), Kids: refs(0, 3)},
		"a leaf of values and kids":     {Leaf: true, Keys: tens(3), Vals: vals(0, 3), Kids: refs(0, 3)},
		"a leaf of values and one kid":  {Leaf: true, Keys: tens(3), Vals: vals(0, 3), Kids: refs(0, 1)},
		"a leaf of values without keys": {Leaf: true, Vals: vals(0, 3)},
		"keys alone":                    {Keys: tens(3)},
		"one kid too few":               {Keys: tens(3), Kids: refs(0, 2)},
		"one kid too many":              {Keys: tens(3), Kids: refs(0, 4)},
		"values in the place of kids":   {Keys: tens(3), Vals: vals(0, 3)},
		"kids and values":               {Keys: tens(3), Kids: refs(0, 3), Vals: vals(0, 3)},
		"kids and one value":            {Keys: tens(3), Kids: refs(0, 3), Vals: vals(0, 1)},
		"kids without keys":             {Kids: refs(0, 3)},
	}
}

// P13.1: nodes of each number of keys, around both edges.
func TestRightCounts(t *testing.T) {
	for _, leaf := range []bool{true, false} {
		least, most := edges(leaf)
		for count := range 30 {
			n := ofKind(leaf, tens(count)...)
			if got := node.Right(n); got != (count >= least && count <= most) {
				t.Errorf("Right of %d keys, a leaf: %v: %v", count, leaf, got)
			}
		}
	}
	if !node.Right(leafOf(0)) || !node.Right(leafOf(math.MaxUint64)) || !node.Right(innerOf(0, math.MaxUint64)) {
		t.Error("Right of the least and the greatest key: false")
	}
}

// P13.1: equal keys, and keys that fall, at each place.
func TestRightOrder(t *testing.T) {
	for _, leaf := range []bool{true, false} {
		_, most := edges(leaf)
		for i := 1; i < most; i++ {
			for _, lower := range []uint64{0, 1, 10} { // than the key ahead
				n := ofKind(leaf, tens(most)...)
				n.Keys[i] = n.Keys[i-1] - lower
				if node.Right(n) {
					t.Errorf("Right of %v: true", n.Keys)
				}
			}
		}
	}
}

// P13.1: nodes that may not be are no nodes, and have no bytes.
func TestWrongNodes(t *testing.T) {
	for what, n := range wrongNodes() {
		if node.Right(n) {
			t.Errorf("Right of %s: true", what)
		}
		if b, e := node.Write(n); len(b) != 0 || e != api.ErrForm {
			t.Errorf("Write of %s: %d bytes, %v", what, len(b), e)
		}
	}
}

// P13.1: Right and Same look at what lists have, not at what lies behind.
func TestBehindLists(t *testing.T) {
	keys, values := tens(12), vals(0, 12)
	n := node.Node{Leaf: true, Keys: keys[:9], Vals: values[:9], Kids: refs(0, 3)[:0]}
	if !node.Right(n) {
		t.Error("Right of lists with room behind: false")
	}
	wantNode(t, "lists with room behind", n, leafOf(tens(9)...))
}

// P13.1: nodes are the same, if all their fields are.
func TestSame(t *testing.T) {
	same := [][2]node.Node{
		{{}, {}},
		{{}, {Keys: []uint64{}, Vals: [][44]byte{}, Kids: []api.Ref{}}},
		{leafOf(1, 2), leafOf(1, 2)},
		{leafOf(1, 2), {Leaf: true, Keys: []uint64{1, 2}, Vals: vals(0, 2), Kids: []api.Ref{}}},
		{innerOf(1, 2), {Keys: []uint64{1, 2}, Kids: refs(0, 2), Vals: [][44]byte{}}},
		{leafOf(2, 1, 1), leafOf(2, 1, 1)},
		{{Keys: tens(3), Vals: vals(0, 1), Kids: refs(0, 7)}, {Keys: tens(3), Vals: vals(0, 1), Kids: refs(0, 7)}},
	}
	for _, c := range same {
		if !node.Same(c[0], c[1]) || !node.Same(c[1], c[0]) {
			t.Errorf("Same of %v and %v: false", c[0], c[1])
		}
	}
	for what, changed := range map[string]func(n *node.Node){
		"Leaf":           func(n *node.Node) { n.Leaf = !n.Leaf },
		"the first key":  func(n *node.Node) { n.Keys[0]++ },
		"the last key":   func(n *node.Node) { n.Keys[2] ^= 1 << 63 },
		"a key less":     func(n *node.Node) { n.Keys = n.Keys[:2] },
		"no keys":        func(n *node.Node) { n.Keys = nil },
		"a key more":     func(n *node.Node) { n.Keys = append(n.Keys, 0) },
		"the first byte": func(n *node.Node) { n.Vals[0][0]++ },
		"the last byte":  func(n *node.Node) { n.Vals[2][43]++ },
		"a value less":   func(n *node.Node) { n.Vals = n.Vals[:2] },
		"a value more":   func(n *node.Node) { n.Vals = append(n.Vals, [44]byte{}) },
		"a sector":       func(n *node.Node) { n.Kids[1].Sector++ },
		"a sum":          func(n *node.Node) { n.Kids[2].Sum[31]++ },
		"a kid less":     func(n *node.Node) { n.Kids = n.Kids[1:] },
		"a kid more":     func(n *node.Node) { n.Kids = append(n.Kids, api.Ref{}) },
	} {
		for _, leaf := range []bool{true, false} {
			a := node.Node{Leaf: leaf, Keys: tens(3), Vals: vals(0, 3), Kids: refs(0, 3)}
			b := node.Node{Leaf: leaf, Keys: tens(3), Vals: vals(0, 3), Kids: refs(0, 3)}
			changed(&b)
			if node.Same(a, b) || node.Same(b, a) {
				t.Errorf("Same of nodes that %s tells apart: true", what)
			}
		}
	}
}

func wantFind(t *testing.T, n node.Node, key uint64, place int, there bool) {
	t.Helper()
	if got, ok := node.Find(n, key); got != place || ok != there {
		t.Fatalf("Find of %d in %v: %d %v, want %d %v", key, n.Keys, got, ok, place, there)
	}
}

func wantWay(t *testing.T, n node.Node, key uint64, place int) {
	t.Helper()
	if got := node.Way(n, key); got != place {
		t.Fatalf("Way of %d in %v: %d, want %d", key, n.Keys, got, place)
	}
}

// P13.2: of all numbers of keys each key, and those ahead of it and behind it.
func TestFindAndWay(t *testing.T) {
	for _, leaf := range []bool{true, false} {
		for count := range 30 {
			n := ofKind(leaf, tens(count)...)
			wantFind(t, n, 0, 0, false)
			wantWay(t, n, 0, 0)
			wantFind(t, n, math.MaxUint64, count, false)
			wantWay(t, n, math.MaxUint64, max(count-1, 0))
			for i, key := range tens(count) {
				for _, ahead := range []uint64{9, 5, 1} {
					wantFind(t, n, key-ahead, i, false)
					wantWay(t, n, key-ahead, max(i-1, 0))
				}
				wantFind(t, n, key, i, true)
				wantWay(t, n, key, i)
				wantFind(t, n, key+1, i+1, false)
				wantWay(t, n, key+1, i)
			}
		}
	}
}

// P13.2: the least and the greatest key there are.
func TestFindEdges(t *testing.T) {
	for _, leaf := range []bool{true, false} {
		n := ofKind(leaf, 0, 1, math.MaxUint64-1, math.MaxUint64)
		for i, key := range n.Keys {
			wantFind(t, n, key, i, true)
			wantWay(t, n, key, i)
		}
		wantFind(t, n, 2, 2, false)
		wantFind(t, n, math.MaxInt64, 2, false)
		wantWay(t, n, 1<<63, 1)
	}
	wantFind(t, node.Node{}, 7, 0, false)
	wantWay(t, node.Node{}, 7, 0)
}

// P13.2: a key is found among keys that do not rise, as well; of equal ones the first is. The way is the last place, whatever the order.
func TestFindOfWrongNodes(t *testing.T) {
	chance := rand.New(rand.NewPCG(13, 2))
	for range 5000 {
		n := node.Node{Leaf: chance.IntN(2) == 0}
		for range chance.IntN(14) {
			n.Keys = append(n.Keys, uint64(chance.IntN(12)))
		}
		for key := range uint64(13) {
			first, way := -1, 0
			for i, k := range n.Keys {
				if k == key && first < 0 {
					first = i
				}
				if k <= key {
					way = i
				}
			}
			wantWay(t, n, key, way)
			place, there := node.Find(n, key)
			if there != (first >= 0) || there && place != first || place < 0 || place > len(n.Keys) {
				t.Fatalf("Find of %d in %v: %d %v", key, n.Keys, place, there)
			}
		}
	}
}
