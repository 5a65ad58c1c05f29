package ring_test

import (
	"math"
	"math/rand/v2"
	"reflect"
	"runtime"
	"slices"
	"strconv"
	"testing"
	"weak"

	"casemate/api"
	"casemate/ring"
)

// made is a ring of a size that may be, with things.
func made[T any](t *testing.T, size int, things ...T) *ring.Ring[T] {
	t.Helper()
	r, e := ring.New[T](size)
	if r == nil || e != api.OK {
		t.Fatalf("New(%d): %v, %v", size, r, e)
	}
	for _, v := range things {
		if !r.Push(v) {
			t.Fatalf("of the size %d: no room for %v", size, v)
		}
	}
	return r
}

// wantThings fails if the ring has other things, tells anything else of them, or has others of the places that are not.
func wantThings[T any](t *testing.T, r *ring.Ring[T], size int, want ...T) {
	t.Helper()
	if r.Len() != len(want) || r.Size() != size {
		t.Fatalf("Len and Size: %d %d, want %d %d", r.Len(), r.Size(), len(want), size)
	}
	for i, w := range want {
		if v, ok := r.At(i); !ok || !reflect.DeepEqual(v, w) {
			t.Fatalf("At(%d): %v, %v, want %v", i, v, ok, w)
		}
	}
	wantNowhere(t, r, len(want))
}

// noPlaces is places that no ring with so many things has.
func noPlaces(n int) []int {
	return []int{-1, -2, n, n + 1, api.MaxText, math.MaxInt32, math.MaxInt32 + 1, math.MinInt32, math.MaxInt, math.MinInt}
}

// wantNowhere fails if there is anything at a place that a ring with so many things has not.
func wantNowhere[T any](t *testing.T, r *ring.Ring[T], n int) {
	t.Helper()
	var none T
	for _, i := range noPlaces(n) {
		if v, ok := r.At(i); ok || !reflect.DeepEqual(v, none) {
			t.Fatalf("At(%d) of %d things: %v, %v", i, n, v, ok)
		}
		if r.Drop(i) {
			t.Fatalf("Drop(%d) of %d things: true", i, n)
		}
	}
	if r.Len() != n {
		t.Fatalf("places that are not: %d things, there were %d", r.Len(), n)
	}
}

// wantPop fails if another thing comes, or none.
func wantPop[T any](t *testing.T, r *ring.Ring[T], want T) {
	t.Helper()
	if v, ok := r.Pop(); !ok || !reflect.DeepEqual(v, want) {
		t.Fatalf("Pop: %v, %v, want %v", v, ok, want)
	}
}

// wantEmpty fails if anything comes.
func wantEmpty[T any](t *testing.T, r *ring.Ring[T]) {
	t.Helper()
	var none T
	if v, ok := r.Pop(); ok || !reflect.DeepEqual(v, none) {
		t.Fatalf("Pop of no things: %v, %v", v, ok)
	}
}

// P9.1: sizes that may be, at both edges, and those that may not.
func TestSizes(t *testing.T) {
	for _, size := range []int{1, 2, 3, 100, api.MaxText - 1, api.MaxText} {
		wantThings(t, made[int](t, size), size)
	}
	for _, size := range []int{0, -1, -2, api.MaxText + 1, 2 * api.MaxText, math.MaxInt32, math.MaxInt, math.MinInt32, math.MinInt} {
		if r, e := ring.New[string](size); r != nil || e != api.ErrArg {
			t.Errorf("New(%d): %v, %v", size, r, e)
		}
	}
}

// P9.1: the document's example.
func TestExample(t *testing.T) {
	r := made(t, 2, 'a', 'b')
	if r.Push('c') {
		t.Error("the third Push is true")
	}
	wantThings(t, r, 2, 'a', 'b')
}

// P9.1: there is room for as many things as the size says, of each size around an edge of memory, and again behind each that is gone.
func TestRoom(t *testing.T) {
	for _, size := range []int{1, 2, 3, 4, 5, 7, 8, 9, 31, 32, 33, 1000, api.MaxText} {
		r := made[int](t, size)
		for i := range size {
			if !r.Push(i) {
				t.Fatalf("of the size %d: no room for the thing %d", size, i)
			}
		}
		for i := range 3 {
			if r.Push(-1) {
				t.Fatalf("of the size %d: room for one more", size)
			}
			wantPop(t, r, i%size)
			if !r.Push(i % size) {
				t.Fatalf("of the size %d: no room behind one that is gone", size)
			}
			if r.Len() != size {
				t.Fatalf("of the size %d: %d things", size, r.Len())
			}
		}
		if !r.Drop(size-1) || !r.Push(-2) || r.Push(-3) {
			t.Fatalf("of the size %d: not one more behind one that was dropped", size)
		}
	}
}

// P9.1, P9.3: what is pushed comes out in order, each once, and then nothing, however often it is asked.
func TestInOrder(t *testing.T) {
	r := made(t, 5, "a", "b", "", "b")
	wantThings(t, r, 5, "a", "b", "", "b")
	for i, want := range []string{"a", "b", "", "b"} {
		if r.Len() != 4-i {
			t.Errorf("ahead of Pop %d: %d things", i, r.Len())
		}
		wantPop(t, r, want)
	}
	for range 3 {
		wantEmpty(t, r)
		wantThings(t, r, 5)
	}
	r.Push("c")
	wantThings(t, r, 5, "c")
	wantPop(t, r, "c")
	wantEmpty(t, r)
}

// P9.3: more things than fit at once, a few at a time, and as many as may be.
func TestAround(t *testing.T) {
	for _, size := range []int{1, 2, 3, 8, 100, api.MaxText} {
		for _, few := range []int{1, (size + 1) / 2, size} {
			r, in, out := made[int](t, size), 0, 0
			for range 10 {
				for range few {
					if !r.Push(in) {
						t.Fatalf("of the size %d: no room", size)
					}
					in++
				}
				for range few {
					wantPop(t, r, out)
					out++
				}
				wantEmpty(t, r)
			}
		}
	}
}

// P9.1: what is asked for stays, and At gives a thing and not its place.
func TestAtStays(t *testing.T) {
	r := made(t, 3, [2]int{1, 2}, [2]int{3, 4})
	for range 3 {
		v, ok := r.At(1)
		if !ok || v != [2]int{3, 4} {
			t.Fatalf("At(1): %v, %v", v, ok)
		}
		v[0] = 9
		wantThings(t, r, 3, [2]int{1, 2}, [2]int{3, 4})
	}
}

// P9.1: Drop takes the one at the place, first, last or between, and no other, also behind some that were popped.
func TestDrop(t *testing.T) {
	for popped := range 4 {
		for n := 1; n <= 6; n++ {
			for i := range n {
				r := made[int](t, n+popped)
				for v := range popped {
					r.Push(-v)
				}
				var want []int
				for v := range n {
					r.Push(v)
					want = append(want, v)
				}
				for range popped {
					r.Pop()
				}
				if !r.Drop(i) {
					t.Fatalf("Drop(%d) of %d: false", i, n)
				}
				want = slices.Delete(want, i, i+1)
				wantThings(t, r, n+popped, want...)
				r.Push(100)
				wantThings(t, r, n+popped, append(want, 100)...)
			}
		}
	}
}

// P9.1: all dropped, and none is left to drop.
func TestDropAll(t *testing.T) {
	r := made(t, 3, 1, 2, 3)
	for left := 2; left >= 0; left-- {
		if !r.Drop(0) || r.Len() != left {
			t.Fatalf("%d things, want %d", r.Len(), left)
		}
	}
	if r.Drop(0) {
		t.Error("Drop of no things: true")
	}
	wantEmpty(t, r)
	wantThings(t, r, 3)
}

// wantNoRing fails if there is anything of a ring that is none.
func wantNoRing[T any](t *testing.T, r *ring.Ring[T], v T) {
	t.Helper()
	for range 2 {
		if r.Push(v) {
			t.Fatal("Push: true")
		}
		wantEmpty(t, r)
		wantThings(t, r, 0)
		if r.Drop(0) {
			t.Fatal("Drop: true")
		}
		if i := ring.Find(r, func(T) bool { return true }); i != -1 {
			t.Fatalf("Find: %d", i)
		}
	}
}

// P9.1, P9.2: of nil, or a ring that no call made, there is nothing.
func TestNoRing(t *testing.T) {
	wantNoRing(t, nil, 7)
	wantNoRing(t, &ring.Ring[int]{}, 7)
	wantNoRing(t, new(ring.Ring[string]), "seven")
	wantNoRing(t, nil, []byte{7})
	wantNoRing[any](t, &ring.Ring[any]{}, 7)
	wantNoRing(t, nil, func() {})
}

// P9.2: f of each, in order, each once, into a kind of its own.
func TestMap(t *testing.T) {
	var asked []int
	l := []int{3, 1, 3, -4}
	out := ring.Map(l, func(v int) string {
		asked = append(asked, v)
		return strconv.Itoa(v)
	})
	if !slices.Equal(out, []string{"3", "1", "3", "-4"}) || !slices.Equal(asked, l) {
		t.Errorf("Map: %q, asked %v", out, asked)
	}
	squares := ring.Map(l, func(v int) int { return v * v })
	if !slices.Equal(squares, []int{9, 1, 9, 16}) || !slices.Equal(l, []int{3, 1, 3, -4}) {
		t.Errorf("Map: %v of %v", squares, l)
	}
	long := ring.Map(make([]byte, 3*api.MaxText), func(b byte) bool { return b == 0 })
	if len(long) != 3*api.MaxText || slices.Contains(long, false) {
		t.Errorf("Map of many: %d", len(long))
	}
}

// P9.2: no list, no elements, and no function.
func TestMapOfNothing(t *testing.T) {
	never := func(int) int {
		t.Error("f is asked")
		return 1
	}
	for _, l := range [][]int{nil, {}, []int{1, 2}[:0]} {
		if out := ring.Map(l, never); len(out) != 0 {
			t.Errorf("Map of no elements: %v", out)
		}
	}
	for _, l := range [][]int{nil, {}, {1, 2, 3}} {
		if out := ring.Map[int, string](l, nil); len(out) != 0 {
			t.Errorf("Map by nil: %v", out)
		}
	}
}

// P9.2: what lies behind the list's end is not read, and the answer is memory of its own.
func TestMapMemory(t *testing.T) {
	room := []int{1, 2, 3, 4}
	same := func(v int) int { return v }
	out := ring.Map(room[:2], same)
	if !slices.Equal(out, []int{1, 2}) {
		t.Fatalf("Map: %v", out)
	}
	other := ring.Map(room[:2], same)
	for i := range out {
		out[i] = 9
	}
	_ = append(out, 9, 9)
	if !slices.Equal(room, []int{1, 2, 3, 4}) || !slices.Equal(other, []int{1, 2}) {
		t.Errorf("writing into an answer: %v, %v", room, other)
	}
}

// P9.2: the place of the first one, whichever of them it is, and what is asked for it.
func TestFind(t *testing.T) {
	r := made(t, 9, 5, 7, 5, 8, 7)
	for want, v := range map[int]int{0: 5, 1: 7, 3: 8, -1: 6} {
		var asked []int
		got := ring.Find(r, func(x int) bool {
			asked = append(asked, x)
			return x == v
		})
		all := []int{5, 7, 5, 8, 7}
		if want >= 0 {
			all = all[:want+1]
		}
		if got != want || !slices.Equal(asked, all) {
			t.Errorf("Find of %d: %d, want %d, asked %v", v, got, want, asked)
		}
	}
	wantThings(t, r, 9, 5, 7, 5, 8, 7)
	r.Pop()
	r.Drop(0)
	if got := ring.Find(r, func(x int) bool { return x == 8 }); got != 1 {
		t.Errorf("Find behind others that are gone: %d", got)
	}
	if got := ring.Find(r, func(x int) bool { return true }); got != 0 {
		t.Errorf("Find of any: %d", got)
	}
	if got := ring.Find(r, func(x int) bool { return false }); got != -1 {
		t.Errorf("Find of none: %d", got)
	}
}

// P9.2: no things, or no function.
func TestFindNothing(t *testing.T) {
	yes := func(int) bool { return true }
	if got := ring.Find(made[int](t, 3), yes); got != -1 {
		t.Errorf("Find of no things: %d", got)
	}
	for _, r := range []*ring.Ring[int]{nil, {}, made[int](t, 3), made(t, 3, 1, 2)} {
		if got := ring.Find(r, nil); got != -1 {
			t.Errorf("Find by nil: %d", got)
		}
	}
	gone := made(t, 2, 1, 2)
	gone.Pop()
	gone.Pop()
	if got := ring.Find(gone, yes); got != -1 {
		t.Errorf("Find of things that are gone: %d", got)
	}
}

// P9.2, P1: a function that panics makes the zero one of a thing, and no call panics.
func TestPanics(t *testing.T) {
	unless := func(v any) bool {
		if v == nil {
			panic("none")
		}
		return v.(int) > 1 // panics for what is no int
	}
	l := []any{2, nil, "three", 1, 4}
	if out := ring.Map(l, unless); !slices.Equal(out, []bool{true, false, false, false, true}) {
		t.Errorf("Map: %v", out)
	}
	r := made(t, 5, l[1:]...)
	if got := ring.Find(r, unless); got != 3 {
		t.Errorf("Find: %d", got)
	}
	wantThings(t, r, 5, l[1:]...)
	always := func(any) bool { panic(nil) }
	if got := ring.Find(r, always); got != -1 {
		t.Errorf("Find: %d", got)
	}
	if out := ring.Map(l, always); !slices.Equal(out, make([]bool, len(l))) {
		t.Errorf("Map: %v", out)
	}
}

// P9.2, P1: a function that changes the ring it is asked of; Find ends, and nothing panics.
func TestFindChanged(t *testing.T) {
	for name, change := range map[string]func(r *ring.Ring[int]){
		"Pop":  func(r *ring.Ring[int]) { r.Pop() },
		"Drop": func(r *ring.Ring[int]) { r.Drop(r.Len() - 1) },
		"Push": func(r *ring.Ring[int]) { r.Push(1) },
		"all":  func(r *ring.Ring[int]) { r.Pop(); r.Push(1); r.Push(1); r.Drop(0) },
		"Find": func(r *ring.Ring[int]) { ring.Find(r, func(int) bool { r.Pop(); return false }) },
	} {
		r := made(t, 100, 1, 2, 3, 4, 5, 6, 7)
		if got := ring.Find(r, func(int) bool { change(r); return false }); got != -1 {
			t.Errorf("%s: %d", name, got)
		}
		if r.Len() > r.Size() {
			t.Errorf("%s: %d things of %d", name, r.Len(), r.Size())
		}
	}
}

// step does one of the calls that change a ring, on it and on a list that stands for it.
func step[T any](t *testing.T, r *ring.Ring[T], l []T, size int, chance *rand.Rand, kind func(int) T) []T {
	t.Helper()
	switch v, i := kind(chance.IntN(50)), chance.IntN(size+4)-2; chance.IntN(5) {
	case 0, 1:
		if r.Push(v) != (len(l) < size) {
			t.Fatalf("Push onto %d of %d things", len(l), size)
		}
		if len(l) < size {
			l = append(l, v)
		}
	case 2, 3:
		if len(l) == 0 {
			wantEmpty(t, r)
			break
		}
		wantPop(t, r, l[0])
		l = l[1:]
	case 4:
		there := i >= 0 && i < len(l)
		if r.Drop(i) != there {
			t.Fatalf("Drop(%d) of %d things: %v", i, len(l), !there)
		}
		if there {
			l = append(slices.Clone(l[:i]), l[i+1:]...)
		}
	}
	return l
}

// same fails if a ring of that kind does anything else than the document says, over many steps that are the same for each kind.
func same[T any](t *testing.T, kind func(int) T) {
	t.Helper()
	for _, size := range []int{1, 2, 3, 7, 20} {
		chance := rand.New(rand.NewPCG(uint64(size), 9))
		r, l := made[T](t, size), []T(nil)
		for range 600 {
			l = step(t, r, l, size, chance, kind)
			wantThings(t, r, size, l...)
		}
	}
}

// P9.4, P9.3: a ring of one kind does what a ring of another kind does.
func TestKinds(t *testing.T) {
	type pair struct {
		name string
		more []int
	}
	same(t, func(i int) int { return i })
	same(t, func(i int) byte { return byte(i) })
	same(t, func(i int) bool { return i%2 == 1 })
	same(t, strconv.Itoa)
	same(t, func(i int) float64 { return float64(i) / 3 })
	same(t, func(i int) complex128 { return complex(float64(i), -1) })
	same(t, func(i int) [40]byte { return [40]byte{39: byte(i)} })
	same(t, func(i int) struct{} { return struct{}{} })
	same(t, func(i int) []byte { return []byte{byte(i), 0} })
	same(t, func(i int) *int { return &i })
	same(t, func(i int) pair { return pair{strconv.Itoa(i), []int{i}} })
	same(t, func(i int) map[int]int { return map[int]int{i: i} })
	same(t, func(i int) error { return api.Errno(i) })
	same(t, func(i int) any {
		if i%3 == 0 {
			return nil
		}
		return i
	})
	same(t, func(i int) api.Fault { return api.Fault{At: i, Code: api.ErrLine} })
}

// P9.4: things that are like nothing, not even themselves, and functions.
func TestOddKinds(t *testing.T) {
	r := made(t, 2, math.NaN(), 1)
	if got := ring.Find(r, math.IsNaN); got != 0 {
		t.Errorf("Find of no number: %d", got)
	}
	if v, ok := r.Pop(); !ok || !math.IsNaN(v) {
		t.Errorf("Pop: %v, %v", v, ok)
	}
	calls := made(t, 2, func() int { return 7 }, nil)
	first, ok := calls.Pop()
	second, there := calls.Pop()
	if !ok || first() != 7 || !there || second != nil {
		t.Error("functions come out as others")
	}
	rings := made(t, 2, made(t, 3, 1, 2), nil)
	if inner, ok := rings.At(0); !ok || inner.Len() != 2 {
		t.Errorf("a ring of rings: %v, %v", inner, ok)
	}
}

// P9.1, P9.4: a ring of a great size of great things has no memory for those that were not pushed.
func TestGreatThings(t *testing.T) {
	r := made[[1 << 20]byte](t, api.MaxText)
	thing := [1 << 20]byte{1<<20 - 1: 7}
	if !r.Push(thing) || r.Len() != 1 || r.Size() != api.MaxText {
		t.Fatalf("Len and Size: %d %d", r.Len(), r.Size())
	}
	if v, ok := r.Pop(); !ok || v != thing {
		t.Error("another thing comes out")
	}
}

// P9.1: each ring has its own things.
func TestApart(t *testing.T) {
	a, b := made(t, 2, 1), made(t, 2, 8, 9)
	a.Push(2)
	b.Pop()
	wantThings(t, a, 2, 1, 2)
	wantThings(t, b, 2, 9)
}

// P9.1: what is gone is not held any more.
func TestGoneIsLetGo(t *testing.T) {
	r := made[*[100]int](t, 8)
	var gone []weak.Pointer[[100]int]
	for i := range 6 {
		thing := &[100]int{i}
		gone = append(gone, weak.Make(thing))
		r.Push(thing)
	}
	r.Pop()
	r.Drop(4)
	r.Pop()
	r.Drop(1)
	runtime.GC()
	for i, there := range []bool{false, false, true, false, true, false} {
		if (gone[i].Value() != nil) != there {
			t.Errorf("the thing %d is held: %v", i, !there)
		}
	}
	runtime.KeepAlive(r)
}
