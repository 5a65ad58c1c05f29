package lane_test

import (
	"math"
	"math/rand/v2"
	"reflect"
	"slices"
	"strconv"
	"testing"

	"casemate/api"
	"casemate/lane"
)

// made is lanes that may be.
func made[T any](t *testing.T, n, size int) *lane.Lanes[T] {
	t.Helper()
	l, e := lane.New[T](n, size)
	if l == nil || e != api.OK {
		t.Fatalf("New(%d, %d): %v, %v", n, size, l, e)
	}
	return l
}

// put puts things into a lane that has room for them.
func put[T any](t *testing.T, l *lane.Lanes[T], number int, things ...T) {
	t.Helper()
	for _, v := range things {
		wantPut(t, l, number, v, api.OK)
	}
}

func wantPut[T any](t *testing.T, l *lane.Lanes[T], number int, v T, want api.Errno) {
	t.Helper()
	if e := l.Put(number, v); e != want {
		t.Fatalf("Put(%d): %v, want %v", number, e, want)
	}
}

func wantTake[T any](t *testing.T, l *lane.Lanes[T], number int, want T) {
	t.Helper()
	if v, ok := l.Take(number); !ok || !reflect.DeepEqual(v, want) {
		t.Fatalf("Take(%d): %v, %v, want %v", number, v, ok, want)
	}
}

// wantNoTake fails if anything comes out of a lane.
func wantNoTake[T any](t *testing.T, l *lane.Lanes[T], number int) {
	t.Helper()
	var none T
	if v, ok := l.Take(number); ok || !reflect.DeepEqual(v, none) {
		t.Fatalf("Take(%d) of nothing: %v, %v", number, v, ok)
	}
}

func wantNext[T any](t *testing.T, l *lane.Lanes[T], from, number int, want T) {
	t.Helper()
	if n, v, ok := l.Next(from); n != number || !ok || !reflect.DeepEqual(v, want) {
		t.Fatalf("Next(%d): %d, %v, %v, want %d, %v", from, n, v, ok, number, want)
	}
}

// wantNoNext fails if anything comes out of any lane.
func wantNoNext[T any](t *testing.T, l *lane.Lanes[T], from int) {
	t.Helper()
	var none T
	if n, v, ok := l.Next(from); n != 0 || ok || !reflect.DeepEqual(v, none) {
		t.Fatalf("Next(%d) of nothing: %d, %v, %v", from, n, v, ok)
	}
}

func wantDrain[T any](t *testing.T, l *lane.Lanes[T], number int, want ...T) {
	t.Helper()
	out := l.Drain(number)
	if len(out) != len(want) || len(want) > 0 && !reflect.DeepEqual(out, want) {
		t.Fatalf("Drain(%d): %v, want %v", number, out, want)
	}
}

// wantLens fails if there are others than so many lanes, or others than so many things in each.
func wantLens[T any](t *testing.T, l *lane.Lanes[T], want ...int) {
	t.Helper()
	if l.Count() != len(want) {
		t.Fatalf("Count: %d, want %d", l.Count(), len(want))
	}
	for i, n := range want {
		if l.Len(i) != n {
			t.Fatalf("Len(%d): %d, want %d", i, l.Len(i), n)
		}
	}
}

// noLanes is numbers of which there is no lane of n.
func noLanes(n int) []int {
	return []int{-1, -2, -n - 1, n, n + 1, 2 * n, 255, 256, math.MaxInt32, math.MaxInt32 + 1, math.MinInt32, math.MaxInt, math.MinInt}
}

// P10.1: numbers of lanes, and sizes, that may be and that may not, one of both or both.
func TestNew(t *testing.T) {
	numbers := []int{math.MinInt, math.MinInt32, -8, -2, math.MaxInt32, math.MaxInt}
	for n := -1; n <= api.MaxTenants+api.MaxQueue; n++ {
		numbers = append(numbers, n)
	}
	for _, n := range numbers {
		for _, size := range numbers {
			l, e := lane.New[int](n, size)
			if n < 1 || n > api.MaxTenants || size < 1 || size > api.MaxQueue {
				if l != nil || e != api.ErrArg {
					t.Errorf("New(%d, %d): %v, %v", n, size, l, e)
				}
				continue
			}
			if l == nil || e != api.OK {
				t.Fatalf("New(%d, %d): %v, %v", n, size, l, e)
			}
			wantLens(t, l, make([]int, n)...)
			wantNoNext(t, l, 0)
		}
	}
}

// P10.1: the document's example.
func TestExample(t *testing.T) {
	l := made[string](t, 1, 1)
	wantPut(t, l, 0, "a", api.OK)
	wantPut(t, l, 0, "b", api.ErrFull)
	wantTake(t, l, 0, "a")
}

// P10.1: each lane has room for as many things as the size says, whatever the others have, and again behind each that is gone.
func TestRoom(t *testing.T) {
	for n := 1; n <= api.MaxTenants; n++ {
		for size := 1; size <= api.MaxQueue; size++ {
			l := made[int](t, n, size)
			for i := range n {
				for v := range size {
					wantPut(t, l, i, 100*i+v, api.OK)
				}
				wantPut(t, l, i, -1, api.ErrFull)
				wantPut(t, l, i, -2, api.ErrFull)
			}
			for i := range n {
				wantTake(t, l, i, 100*i)
				wantPut(t, l, i, 100*i+size, api.OK)
				wantPut(t, l, i, -3, api.ErrFull)
				if l.Len(i) != size {
					t.Fatalf("Len(%d): %d, want %d", i, l.Len(i), size)
				}
				for v := range size {
					wantTake(t, l, i, 100*i+v+1)
				}
				wantNoTake(t, l, i)
			}
		}
	}
}

// P10.1: lanes that are not there, at both edges and far away, have nothing and take nothing; those that are stay as they were.
func TestNoSuchLane(t *testing.T) {
	for n := 1; n <= api.MaxTenants; n++ {
		l, lens := made[int](t, n, 1), make([]int, n)
		for i := range n {
			if i%2 == 0 {
				wantPut(t, l, i, 7, api.OK)
				lens[i] = 1
			}
		}
		for _, i := range noLanes(n) {
			wantPut(t, l, i, 9, api.ErrArg)
			wantNoTake(t, l, i)
			wantDrain(t, l, i)
			if l.Len(i) != 0 {
				t.Fatalf("Len(%d) of %d lanes: %d", i, n, l.Len(i))
			}
		}
		wantLens(t, l, lens...)
	}
}

// P10.1: of nil, or lanes that no call made, there is nothing, of whichever lane.
func TestNoLanes(t *testing.T) {
	for _, l := range []*lane.Lanes[int]{nil, {}, new(lane.Lanes[int])} {
		for _, i := range append(noLanes(1), 0, 7) {
			wantPut(t, l, i, 9, api.ErrNil)
			wantNoTake(t, l, i)
			wantNoNext(t, l, i)
			wantDrain(t, l, i)
			if l.Len(i) != 0 || l.Count() != 0 {
				t.Fatalf("Len(%d) and Count: %d %d", i, l.Len(i), l.Count())
			}
		}
	}
}

// P10.1: Drain takes all of one lane, in order, and leaves it with its room, and the others as they were.
func TestDrain(t *testing.T) {
	for n := range api.MaxQueue + 1 {
		l, want := made[int](t, 3, api.MaxQueue), []int(nil)
		put(t, l, 0, 100, 101)
		put(t, l, 2, 200)
		for v := range n {
			put(t, l, 1, v)
			want = append(want, v)
		}
		wantDrain(t, l, 1, want...)
		wantLens(t, l, 2, 0, 1)
		wantDrain(t, l, 1)
		wantNoTake(t, l, 1)
		for v := range api.MaxQueue {
			wantPut(t, l, 1, -v, api.OK)
		}
		wantTake(t, l, 1, 0)
		wantTake(t, l, 0, 100)
		wantDrain(t, l, 0, 101)
		wantDrain(t, l, 2, 200)
		if len(l.Drain(1)) != api.MaxQueue-1 {
			t.Fatal("Drain takes others than were put")
		}
	}
}

// P10.1: what Drain tells is memory of its own, and writing into it reaches no lane.
func TestDrainMemory(t *testing.T) {
	l := made[int](t, 2, 4)
	put(t, l, 0, 1, 2, 3)
	put(t, l, 1, 4, 5)
	first := l.Drain(0)
	put(t, l, 0, 6, 7)
	_ = append(first, 9)
	clear(first[:cap(first)])
	wantDrain(t, l, 0, 6, 7)
	wantDrain(t, l, 1, 4, 5)
}

// P10.1: a thing is put as it is then, whatever becomes of the place in which it came.
func TestPutCopies(t *testing.T) {
	l := made[[2]int](t, 1, 3)
	v := [2]int{1, 2}
	put(t, l, 0, v)
	v[0] = 9
	put(t, l, 0, v)
	v[1] = 9
	wantDrain(t, l, 0, [2]int{1, 2}, [2]int{9, 2})
}

// modulo is what is left behind a division, never below 0, the slow way.
func modulo(from, n int) int {
	for from >= 1<<20 || from < -1<<20 {
		from -= from / n / 2 * n
	}
	for from < 0 {
		from += n
	}
	for from >= n {
		from -= n
	}
	return from
}

// froms is lanes from which Next is asked: all around 0, and the lowest and the greatest there are.
func froms() []int {
	l := []int{math.MinInt, math.MinInt + 1, math.MinInt + 7, math.MinInt32, math.MaxInt32, math.MaxInt - 7, math.MaxInt - 1, math.MaxInt}
	for from := -2*api.MaxTenants - 1; from <= 2*api.MaxTenants+1; from++ {
		l = append(l, from)
	}
	return l
}

// P10.2: of all lanes that have some or have none, in each way, the first one from that lane on, around.
func TestNext(t *testing.T) {
	for n := 1; n <= api.MaxTenants; n++ {
		l := made[int](t, n, 2)
		for some := range 1 << n {
			for _, from := range froms() {
				want := -1
				for i := n - 1; i >= 0; i-- {
					if number := (modulo(from, n) + i) % n; some>>number&1 == 1 {
						put(t, l, number, 10*number, 10*number+1)
						want = number
					}
				}
				if want < 0 {
					wantNoNext(t, l, from)
					continue
				}
				wantNext(t, l, from, want, 10*want)
				wantTake(t, l, want, 10*want+1)
				for number := range n {
					if number != want && l.Len(number) != 2*(some>>number&1) {
						t.Fatalf("Next(%d) took of the lane %d", from, number)
					}
					l.Drain(number)
				}
			}
		}
	}
}

// P10.2: what from is modulo the number of lanes, by hand.
func TestNextByHand(t *testing.T) {
	for from, want := range map[int]int{0: 0, 1: 1, 2: 2, 3: 0, 5: 2, -1: 2, -2: 1, -3: 0, -4: 2, math.MaxInt: 1, math.MinInt: 1, math.MinInt + 1: 2} { // 2^63 leaves 2
		l := made[string](t, 3, 1)
		for i, v := range []string{"a", "b", "c"} {
			put(t, l, i, v)
		}
		wantNext(t, l, from, want, []string{"a", "b", "c"}[want])
		wantNext(t, l, from, (want+1)%3, []string{"b", "c", "a"}[want])
		wantNext(t, l, from, (want+2)%3, []string{"c", "a", "b"}[want])
		wantNoNext(t, l, from)
	}
}

// P10.2: Next of one lane takes in order, and none is taken twice.
func TestNextInOrder(t *testing.T) {
	l := made[int](t, 2, 3)
	put(t, l, 1, 1, 2, 3)
	for v := range 3 {
		wantNext(t, l, 0, 1, v+1)
		wantLens(t, l, 0, 2-v)
	}
	for range 3 {
		wantNoNext(t, l, 1)
	}
	put(t, l, 0, 4)
	wantNext(t, l, 1, 0, 4)
}

// P10.3: over many steps, each lane is a list of its own: what is put comes out in order, each once.
func TestApart(t *testing.T) {
	for n := 1; n <= api.MaxTenants; n++ {
		for size := 1; size <= api.MaxQueue; size++ {
			chance := rand.New(rand.NewPCG(uint64(n), uint64(size)))
			l, all := made[int](t, n, size), make([][]int, n)
			for thing := range 300 {
				number := chance.IntN(n)
				switch chance.IntN(8) {
				case 0:
					wantDrain(t, l, number, all[number]...)
					all[number] = nil
				case 1, 2:
					next(t, l, all, chance.IntN(4*n)-2*n)
				case 3:
					if len(all[number]) == 0 {
						wantNoTake(t, l, number)
						break
					}
					wantTake(t, l, number, all[number][0])
					all[number] = all[number][1:]
				default:
					if len(all[number]) == size {
						wantPut(t, l, number, thing, api.ErrFull)
						break
					}
					put(t, l, number, thing)
					all[number] = append(all[number], thing)
				}
				wantLens(t, l, lens(all)...)
			}
		}
	}
}

func lens(all [][]int) []int {
	var out []int
	for _, things := range all {
		out = append(out, len(things))
	}
	return out
}

// next asks Next of lanes, and of lists that stand for them.
func next(t *testing.T, l *lane.Lanes[int], all [][]int, from int) {
	t.Helper()
	for i := range all {
		number := (modulo(from, len(all)) + i) % len(all)
		if len(all[number]) > 0 {
			wantNext(t, l, from, number, all[number][0])
			all[number] = all[number][1:]
			return
		}
	}
	wantNoNext(t, l, from)
}

// P10.4: who asks from the lane behind the last one each time comes, behind as many asks as there are lanes, to each that has some, though the others never run dry.
func TestTurns(t *testing.T) {
	for n := 1; n <= api.MaxTenants; n++ {
		for start := -n; start < 2*n; start++ {
			l, from := made[int](t, n, 2), start
			for number := range n {
				put(t, l, number, number, number)
			}
			for range 3 {
				var turns []int
				for range n {
					number, v, ok := l.Next(from)
					if !ok || v != number {
						t.Fatalf("Next(%d): %d, %v, %v", from, number, v, ok)
					}
					turns = append(turns, number)
					put(t, l, number, number)
					from = number + 1
				}
				slices.Sort(turns)
				if len(slices.Compact(turns)) != n {
					t.Fatalf("from %d, of %d lanes had their turn: %v", start, n, turns)
				}
			}
		}
	}
}

// P10.4: a lane into which something comes late waits for as many asks as there are lanes at most, whichever of the others have some.
func TestLateTurn(t *testing.T) {
	const n = api.MaxTenants
	for late := range n {
		for some := range 1 << n {
			for last := range n {
				l, from := made[int](t, n, 1), last+1
				for number := range n {
					if number == late || some>>number&1 == 1 {
						put(t, l, number, number)
					}
				}
				asks, came := 0, false
				for ; asks < n && !came; asks++ {
					number, _, ok := l.Next(from)
					if !ok {
						t.Fatalf("Next(%d): nothing, though the lane %d waits", from, late)
					}
					put(t, l, number, number)
					came, from = number == late, number+1
				}
				if !came {
					t.Fatalf("the lane %d had no turn behind %d asks", late, asks)
				}
			}
		}
	}
}

// same fails if lanes of that kind do anything else than the document says.
func same[T any](t *testing.T, kind func(int) T) {
	t.Helper()
	l := made[T](t, 3, 4)
	put(t, l, 0, kind(1), kind(2), kind(3))
	put(t, l, 2, kind(0), kind(4), kind(5), kind(6))
	wantPut(t, l, 2, kind(7), api.ErrFull)
	wantPut(t, l, 3, kind(7), api.ErrArg)
	wantLens(t, l, 3, 0, 4)
	wantNoTake(t, l, 1)
	wantTake(t, l, 0, kind(1))
	wantNext(t, l, 1, 2, kind(0))
	wantNext(t, l, 3, 0, kind(2))
	wantDrain(t, l, 2, kind(4), kind(5), kind(6))
	wantDrain(t, l, 1)
	wantNext(t, l, -2, 0, kind(3))
	wantNoNext(t, l, 0)
	wantLens(t, l, 0, 0, 0)
}

// P10.1 to P10.3: lanes of all kinds of things, of those too that a channel does not take.
func TestKinds(t *testing.T) {
	same(t, func(i int) int { return i })
	same(t, func(i int) bool { return i%2 == 1 })
	same(t, strconv.Itoa)
	same(t, func(i int) struct{} { return struct{}{} })
	same(t, func(i int) []byte { return []byte{byte(i)} })
	same(t, func(i int) *int { return &i })
	same(t, func(i int) map[string]int { return map[string]int{"a": i} })
	same(t, func(i int) api.Key { return api.Key{byte(i), 31: 9} })
	same(t, func(i int) error { return api.Errno(i) })
	same(t, func(i int) any {
		if i%2 == 0 {
			return nil
		}
		return i
	})
	same(t, func(i int) [1 << 16]byte { return [1 << 16]byte{1<<16 - 1: byte(i)} })
}

// P10.3: lanes of one making and of another do not touch each other.
func TestOthers(t *testing.T) {
	a, b := made[int](t, 2, 2), made[int](t, 2, 2)
	put(t, a, 0, 1, 2)
	put(t, b, 1, 3)
	wantLens(t, a, 2, 0)
	wantLens(t, b, 0, 1)
	wantNext(t, b, 0, 1, 3)
	wantDrain(t, a, 0, 1, 2)
}
