package node_test

import (
	"maps"
	"math"
	"math/rand/v2"
	"slices"
	"testing"

	"casemate/api"
	"casemate/node"
)

// copied is a node of its own.
func copied(n node.Node) node.Node {
	return node.Node{Leaf: n.Leaf, Keys: slices.Clone(n.Keys), Vals: slices.Clone(n.Vals), Kids: slices.Clone(n.Kids)}
}

// roomy is a node of its own, with something behind each of its lists.
func roomy(n node.Node) node.Node {
	return node.Node{
		Leaf: n.Leaf,
		Keys: append(slices.Clone(n.Keys), 7, 7, 7)[:len(n.Keys)],
		Vals: append(slices.Clone(n.Vals), vals(70, 3)...)[:len(n.Vals)],
		Kids: append(slices.Clone(n.Kids), refs(70, 3)...)[:len(n.Kids)],
	}
}

// whole is a node with all that lies behind its lists.
func whole(n node.Node) node.Node {
	return node.Node{Leaf: n.Leaf, Keys: n.Keys[:cap(n.Keys)], Vals: n.Vals[:cap(n.Vals)], Kids: n.Kids[:cap(n.Kids)]}
}

// scribble writes over all that a node was handed out with.
func scribble(n node.Node) {
	all := whole(n)
	for i := range all.Keys {
		all.Keys[i] = 99
	}
	for i := range all.Vals {
		all.Vals[i] = val(99)
	}
	for i := range all.Kids {
		all.Kids[i] = ref(99)
	}
}

// wantOwn fails if what a call makes of nodes shares memory with them, or has another one's.
func wantOwn(t *testing.T, what string, call func(n node.Node) []node.Node, n node.Node) {
	t.Helper()
	in := roomy(n)
	behind := copied(whole(in))
	outs := call(in)
	var want []node.Node
	for _, out := range outs {
		want = append(want, copied(out))
		for _, k := range whole(out).Keys[len(out.Keys):] {
			if k == 7 {
				t.Fatalf("%s hands out what lay behind", what)
			}
		}
	}
	wantNode(t, what+": what was handed in", whole(in), behind)
	for i, out := range outs {
		scribble(out)
		for j := i + 1; j < len(outs); j++ {
			wantNode(t, what+": another node of the answer", outs[j], want[j])
		}
	}
	wantNode(t, what+": what was handed in, behind a change of the answer", whole(in), behind)
}

// with is a leaf's pairs, and one more: what Put should tell.
func with(n node.Node, key uint64, v [44]byte) node.Node {
	pairs := map[uint64][44]byte{}
	for i, k := range n.Keys {
		pairs[k] = n.Vals[i]
	}
	pairs[key] = v
	out := node.Node{Leaf: true}
	for _, k := range slices.Sorted(maps.Keys(pairs)) {
		out.Keys, out.Vals = append(out.Keys, k), append(out.Vals, pairs[k])
	}
	return out
}

// P13.3, P13.6: in leaves of each number of keys, at each place, new and in the place of another value; what is put is found.
func TestPut(t *testing.T) {
	for count := range api.MaxLeaf + 1 {
		n := leafOf(tens(count)...)
		for _, key := range append(tens(count+1), 0, 1, 9, 11, 15, 45, 91, math.MaxUint64) {
			want := with(n, key, val(50))
			got := node.Put(n, key, val(50))
			wantNode(t, "Put", got, want)
			if place, there := node.Find(got, key); !there || got.Vals[place] != val(50) {
				t.Fatalf("Find of what was put: %d %v", place, there)
			}
			if len(got.Keys) > api.MaxLeaf && node.Right(got) {
				t.Fatal("a leaf of one key too many may be")
			}
			wantOwn(t, "Put", func(n node.Node) []node.Node { return []node.Node{node.Put(n, key, val(50))} }, n)
		}
		wantNode(t, "what was handed in", n, leafOf(tens(count)...))
	}
}

// P13.3: a leaf with one key too many takes others.
func TestPutBeyond(t *testing.T) {
	n := node.Node{Leaf: true}
	for i := range 200 {
		n = node.Put(n, uint64(i*37%200), val(i*37%200))
	}
	if len(n.Keys) != 200 || len(n.Vals) != 200 {
		t.Fatalf("%d keys, %d values", len(n.Keys), len(n.Vals))
	}
	for i := range 200 {
		if n.Keys[i] != uint64(i) || n.Vals[i] != val(i) {
			t.Fatalf("at %d: %d", i, n.Keys[i])
		}
	}
}

// P13.3: a value belongs to no key of a node that is no leaf.
func TestPutOfNoLeaf(t *testing.T) {
	for _, n := range []node.Node{{}, innerOf(1, 2), innerOf(tens(11)...), {Keys: tens(2), Vals: vals(0, 2), Kids: refs(0, 2)}} {
		for _, key := range []uint64{0, 10, 15, math.MaxUint64} {
			wantZero(t, "Put", node.Put(n, key, val(1)))
		}
	}
}

// P13.3, P13.6: at each place of nodes of each number of keys; what is cut is not found.
func TestCut(t *testing.T) {
	for _, leaf := range []bool{true, false} {
		for count := 1; count < 14; count++ {
			n := ofKind(leaf, tens(count)...)
			for i, key := range n.Keys {
				want := copied(n)
				want.Keys = slices.Delete(want.Keys, i, i+1)
				if leaf {
					want.Vals = slices.Delete(want.Vals, i, i+1)
				} else {
					want.Kids = slices.Delete(want.Kids, i, i+1)
				}
				got := node.Cut(n, i)
				wantNode(t, "Cut", got, want)
				wantFind(t, got, key, i, false)
				wantOwn(t, "Cut", func(n node.Node) []node.Node { return []node.Node{node.Cut(n, i)} }, n)
			}
		}
	}
}

// P13.3: places that are not there.
func TestCutNowhere(t *testing.T) {
	for _, n := range []node.Node{{}, {Leaf: true}, leafOf(1), leafOf(tens(9)...), innerOf(1, 2), innerOf(tens(11)...), leafOf(tens(10)...), leafOf(3, 1)} {
		for _, i := range []int{-1, -2, math.MinInt32, math.MinInt, len(n.Keys), len(n.Keys) + 1, math.MaxInt32, math.MaxInt} {
			wantNode(t, "Cut", node.Cut(n, i), n)
			wantOwn(t, "Cut", func(n node.Node) []node.Node { return []node.Node{node.Cut(n, i)} }, n)
		}
	}
}

// P13.3, P13.5: of each number of keys the first half has half of them, or one more; both joined are as it was.
func TestHalveAndJoin(t *testing.T) {
	for _, leaf := range []bool{true, false} {
		for count := range 30 {
			n := ofKind(leaf, tens(count)...)
			a, b := node.Halve(n)
			half := count/2 + count%2
			wantA, wantB := copied(n), copied(n)
			wantA.Keys, wantB.Keys = n.Keys[:half], n.Keys[half:]
			if leaf {
				wantA.Vals, wantB.Vals = n.Vals[:half], n.Vals[half:]
			} else {
				wantA.Kids, wantB.Kids = n.Kids[:half], n.Kids[half:]
			}
			wantNode(t, "the first half", a, wantA)
			wantNode(t, "the second half", b, wantB)
			wantNode(t, "Join of the halves", node.Join(a, b), n)
			wantOwn(t, "Halve", func(n node.Node) []node.Node { a, b := node.Halve(n); return []node.Node{a, b} }, n)
			wantOwn(t, "Halve", func(n node.Node) []node.Node { a, b := node.Halve(n); return []node.Node{b, a} }, n)
		}
		_, most := edges(leaf)
		a, b := node.Halve(ofKind(leaf, tens(most+1)...))
		if !node.Right(a) || !node.Right(b) {
			t.Error("the halves of a node with one key too many may not be")
		}
	}
}

// P13.3: all of the one, and all of the other, whatever their keys are; nothing is shared with either.
func TestJoin(t *testing.T) {
	for _, leaf := range []bool{true, false} {
		none := node.Node{Leaf: leaf}
		a, b := ofKind(leaf, 1, 2, 3), ofKind(leaf, 2, 0)
		want := node.Node{Leaf: leaf, Keys: []uint64{1, 2, 3, 2, 0}, Vals: slices.Concat(a.Vals, b.Vals), Kids: slices.Concat(a.Kids, b.Kids)}
		wantNode(t, "Join", node.Join(a, b), want)
		wantNode(t, "Join with none", node.Join(a, none), a)
		wantNode(t, "Join of none", node.Join(none, a), a)
		wantNode(t, "Join of none with none", node.Join(none, none), none)
		for _, o := range []node.Node{none, a, b} {
			wantOwn(t, "Join", func(n node.Node) []node.Node { return []node.Node{node.Join(n, o)} }, a)
			wantOwn(t, "Join", func(n node.Node) []node.Node { return []node.Node{node.Join(o, n)} }, a)
		}
		wantOwn(t, "Join with itself", func(n node.Node) []node.Node { return []node.Node{node.Join(n, n)} }, a)
	}
}

// P13.3: of nodes of which nothing belongs to some key these four tell the zero node.
func TestTooFew(t *testing.T) {
	for what, n := range map[string]node.Node{
		"a leaf without values":       {Leaf: true, Keys: tens(2)},
		"a leaf of one value":         {Leaf: true, Keys: tens(2), Vals: vals(0, 1)},
		"a leaf of kids":              {Leaf: true, Keys: tens(2), Kids: refs(0, 2)},
		"a leaf of 10 of 11 values":   {Leaf: true, Keys: tens(11), Vals: vals(0, 10)},
		"a leaf with a value behind":  {Leaf: true, Keys: tens(2), Vals: vals(0, 2)[:1]},
		"keys alone":                  {Keys: tens(2)},
		"one kid":                     {Keys: tens(2), Kids: refs(0, 1)},
		"values in the place of kids": {Keys: tens(2), Vals: vals(0, 2)},
		"11 of 12 kids":               {Keys: tens(12), Kids: refs(0, 11)},
	} {
		for _, key := range []uint64{0, 10, 11, math.MaxUint64} {
			wantZero(t, "Put of "+what, node.Put(n, key, val(1)))
		}
		for i := -1; i < 14; i++ {
			wantZero(t, "Cut of "+what, node.Cut(n, i))
		}
		a, b := node.Halve(n)
		wantZero(t, "Halve of "+what, a)
		wantZero(t, "Halve of "+what, b)
		for _, o := range []node.Node{{}, leafOf(1), innerOf(1, 2), n} {
			wantZero(t, "Join of "+what, node.Join(n, o))
			wantZero(t, "Join with "+what, node.Join(o, n))
		}
	}
}

// handMade is a node of any lists, whose keys need not rise.
func handMade(chance *rand.Rand) node.Node {
	n := node.Node{Leaf: chance.IntN(2) == 0, Vals: vals(0, chance.IntN(14)), Kids: refs(0, chance.IntN(14))}
	for range chance.IntN(14) {
		n.Keys = append(n.Keys, uint64(chance.IntN(20)))
	}
	return n
}

// P13.5, P13.6: nodes that may not be are halved and joined, and what is put into them is found, unless these tell the zero node.
func TestHandMade(t *testing.T) {
	chance := rand.New(rand.NewPCG(13, 5))
	for range 20000 {
		n := handMade(chance)
		fits := n.Leaf && len(n.Vals) >= len(n.Keys) || !n.Leaf && len(n.Kids) >= len(n.Keys)
		a, b := node.Halve(n)
		if fits {
			wantNode(t, "Join of the halves", node.Join(a, b), n)
			if len(a.Keys) != (len(n.Keys)+1)/2 || len(a.Keys)+len(b.Keys) != len(n.Keys) {
				t.Fatalf("halves of %d and %d keys of %d", len(a.Keys), len(b.Keys), len(n.Keys))
			}
		} else {
			wantZero(t, "Halve", a)
			wantZero(t, "Halve", b)
		}
		key := uint64(chance.IntN(20))
		put := node.Put(n, key, val(77))
		if place, there := node.Find(put, key); there != (fits && n.Leaf) || there && put.Vals[place] != val(77) {
			t.Fatalf("Put of %d into %v: %v", key, n, put)
		}
		i := chance.IntN(16) - 1
		cut := node.Cut(n, i)
		if fits && i >= 0 && i < len(n.Keys) {
			if !slices.Equal(cut.Keys, slices.Delete(slices.Clone(n.Keys), i, i+1)) {
				t.Fatalf("Cut at %d of %v: %v", i, n.Keys, cut.Keys)
			}
		} else if fits {
			wantNode(t, "Cut nowhere", cut, n)
		}
		node.Right(n)
		node.Write(n)
		node.Join(n, handMade(chance))
	}
}

// P13.6: many puts and cuts, held against a map.
func TestSteps(t *testing.T) {
	chance := rand.New(rand.NewPCG(13, 6))
	for range 50 {
		n, want := node.Node{Leaf: true}, node.Node{Leaf: true}
		for step := range 200 {
			key := uint64(chance.IntN(14))
			if place, there := node.Find(n, key); there && chance.IntN(2) == 0 {
				n = node.Cut(n, place)
				want.Keys, want.Vals = slices.Delete(want.Keys, place, place+1), slices.Delete(want.Vals, place, place+1)
				wantFind(t, n, key, place, false)
			} else {
				n, want = node.Put(n, key, val(step)), with(want, key, val(step))
			}
			wantNode(t, "a step", n, want)
			if a, b := node.Halve(n); len(n.Keys) > api.MaxLeaf {
				wantNode(t, "Join", node.Join(a, b), n)
			}
		}
	}
}
