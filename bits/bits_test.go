package bits_test

import (
	"math"
	"math/rand/v2"
	"testing"

	"casemate/api"
	"casemate/bits"
)

// made is a row of a size that may be, of which places are held, as often as they are told.
func made(t *testing.T, size int, held ...int) *bits.Row {
	t.Helper()
	r, e := bits.New(size)
	if r == nil || e != api.OK {
		t.Fatalf("New(%d): %v, %v", size, r, e)
	}
	hold(t, r, held...)
	return r
}

// hold holds places that may be held.
func hold(t *testing.T, r *bits.Row, places ...int) {
	t.Helper()
	for _, i := range places {
		if e := r.Hold(i); e != api.OK {
			t.Fatalf("Hold(%d): %v", i, e)
		}
	}
}

func wantDrop(t *testing.T, r *bits.Row, i int, want bool) {
	t.Helper()
	if free, e := r.Drop(i); free != want || e != api.OK {
		t.Fatalf("Drop(%d): %v, %v, want %v", i, free, e, want)
	}
}

// wantNoDrop fails if a place that is free, or not there, is dropped.
func wantNoDrop(t *testing.T, r *bits.Row, i int, want api.Errno) {
	t.Helper()
	if free, e := r.Drop(i); free || e != want {
		t.Fatalf("Drop(%d): %v, %v, want %v", i, free, e, want)
	}
}

func wantFree(t *testing.T, r *bits.Row, from, want int) {
	t.Helper()
	if i, ok := r.Free(from); i != want || !ok {
		t.Fatalf("Free(%d) of %d: %d, %v, want %d", from, r.Size(), i, ok, want)
	}
}

// wantNoneFree fails if a place is told free.
func wantNoneFree(t *testing.T, r *bits.Row, from int) {
	t.Helper()
	if i, ok := r.Free(from); i != 0 || ok {
		t.Fatalf("Free(%d) of %d: %d, %v, want none", from, r.Size(), i, ok)
	}
}

// wantTimes fails if the places are not held so often, each, or if anything else is told of them.
func wantTimes(t *testing.T, r *bits.Row, times []int) {
	t.Helper()
	taken, free := 0, -1
	for i := len(times) - 1; i >= 0; i-- {
		if r.Times(i) != times[i] {
			t.Fatalf("Times(%d): %d, want %d", i, r.Times(i), times[i])
		}
		if times[i] > 0 {
			taken++
		} else {
			free = i
		}
		if free < 0 {
			wantNoneFree(t, r, i)
		} else {
			wantFree(t, r, i, free)
		}
	}
	if r.Taken() != taken || r.Size() != len(times) {
		t.Fatalf("Taken and Size: %d %d, want %d %d", r.Taken(), r.Size(), taken, len(times))
	}
}

// sizes is sizes that may be, around each edge of words and both edges of what may be.
func sizes() []int {
	return []int{1, 2, 3, 63, 64, 65, 127, 128, 129, 1000, api.MaxExtents, api.MaxSectors - 1, api.MaxSectors}
}

// noPlaces is places that a row of that size has not.
func noPlaces(size int) []int {
	return []int{-1, -2, -64, size, size + 1, size + 63, size + 64, api.MaxSectors, math.MaxInt32, math.MaxInt32 + 1, math.MinInt32, math.MaxInt, math.MinInt}
}

// wantEqual fails if rows are not equal, or are, as it is asked, whichever is first.
func wantEqual(t *testing.T, a, b *bits.Row, want bool) {
	t.Helper()
	if bits.Equal(a, b) != want || bits.Equal(b, a) != want {
		t.Fatalf("Equal: %v, %v, want %v", bits.Equal(a, b), bits.Equal(b, a), want)
	}
}

// P12.1: sizes that may be, at both edges, all free, and those that may not.
func TestSizes(t *testing.T) {
	for _, size := range sizes() {
		r := made(t, size)
		if r.Size() != size || r.Taken() != 0 {
			t.Errorf("Size and Taken: %d %d, want %d 0", r.Size(), r.Taken(), size)
		}
		for i := range size {
			if r.Times(i) != 0 {
				t.Fatalf("Times(%d): %d", i, r.Times(i))
			}
			wantFree(t, r, i, i)
		}
	}
	for _, size := range []int{0, -1, -2, -64, api.MaxSectors + 1, api.MaxSectors + 64, 2 * api.MaxSectors, math.MaxInt32, math.MaxInt32 + 1, math.MaxInt, math.MinInt32, math.MinInt} {
		if r, e := bits.New(size); r != nil || e != api.ErrArg {
			t.Errorf("New(%d): %v, %v", size, r, e)
		}
	}
}

// P12.2: the document's example.
func TestExample(t *testing.T) {
	wantFree(t, made(t, 2, 0), 0, 1)
}

// P12.1, P12.3: a place is held as often as it was held more than dropped, and free then, and so are the others.
func TestHoldAndDrop(t *testing.T) {
	r := made(t, 4, 2, 2, 0, 2)
	wantTimes(t, r, []int{1, 0, 3, 0})
	wantDrop(t, r, 2, false)
	wantTimes(t, r, []int{1, 0, 2, 0})
	wantDrop(t, r, 2, false)
	wantDrop(t, r, 0, true)
	wantTimes(t, r, []int{0, 0, 1, 0})
	wantDrop(t, r, 2, true)
	wantTimes(t, r, []int{0, 0, 0, 0})
	hold(t, r, 2)
	wantTimes(t, r, []int{0, 0, 1, 0})
	wantDrop(t, r, 2, true)
}

// P12.1: each place of a row is one of its own, of all sizes.
func TestEachPlace(t *testing.T) {
	for _, size := range []int{1, 2, 63, 64, 65, 128, 200} {
		for place := range size {
			r, times := made(t, size, place, place), make([]int, size)
			times[place] = 2
			wantTimes(t, r, times)
			wantDrop(t, r, place, false)
			times[place] = 1
			wantTimes(t, r, times)
			wantDrop(t, r, place, true)
			wantTimes(t, r, make([]int, size))
		}
	}
}

// P12.1: a free place is not dropped, whether it was held or not, and nothing has changed.
func TestDropOfFree(t *testing.T) {
	r := made(t, 70, 5, 69)
	for _, i := range []int{0, 4, 6, 63, 64, 68} {
		wantNoDrop(t, r, i, api.ErrState)
	}
	wantDrop(t, r, 5, true)
	for range 3 {
		wantNoDrop(t, r, 5, api.ErrState)
	}
	times := make([]int, 70)
	times[69] = 1
	wantTimes(t, r, times)
}

// P12.1: places that are not there, and nothing has changed.
func TestNoPlaces(t *testing.T) {
	for _, size := range []int{1, 2, 63, 64, 65, 100, api.MaxSectors} {
		r := made(t, size, 0, size-1)
		same := r.Clone()
		for _, i := range noPlaces(size) {
			if e := r.Hold(i); e != api.ErrArg {
				t.Errorf("Hold(%d) of %d: %v", i, size, e)
			}
			wantNoDrop(t, r, i, api.ErrArg)
			if n := r.Times(i); n != 0 {
				t.Errorf("Times(%d) of %d: %d", i, size, n)
			}
		}
		wantEqual(t, r, same, true)
	}
}

// P12.2, P12.4: from below, from the end on, and where all are held.
func TestFreeFrom(t *testing.T) {
	for _, size := range sizes() {
		r := made(t, size)
		for _, from := range []int{-1, -63, -64, -65, math.MinInt32, math.MinInt} {
			wantFree(t, r, from, 0)
		}
		for _, from := range []int{size, size + 1, size + 63, size + 64, api.MaxSectors, math.MaxInt32, math.MaxInt32 + 1, math.MaxInt - 63, math.MaxInt} {
			wantNoneFree(t, r, from)
		}
		for i := range size {
			hold(t, r, i)
		}
		if r.Taken() != size {
			t.Errorf("Taken: %d, want %d", r.Taken(), size)
		}
		for _, from := range []int{math.MinInt, -1, 0, 1, 62, 63, 64, 65, size / 2, size - 1, size, size + 1, math.MaxInt} {
			wantNoneFree(t, r, from)
		}
	}
}

// P12.2, P12.4: of a row all of which but one place is held, that place is told, from there on alone.
func TestOneFree(t *testing.T) {
	for _, size := range []int{1, 2, 63, 64, 65, 128, 129, 300} {
		r := made(t, size)
		for i := range size {
			hold(t, r, i)
		}
		for place := range size {
			wantDrop(t, r, place, true)
			for from := -1; from <= size; from++ {
				if from <= place {
					wantFree(t, r, from, place)
				} else {
					wantNoneFree(t, r, from)
				}
			}
			hold(t, r, place)
		}
	}
}

// P12.2: what is free is told, however far it is.
func TestFarFree(t *testing.T) {
	r := made(t, api.MaxSectors)
	for i := range api.MaxSectors - 1 {
		hold(t, r, i)
	}
	for _, from := range []int{-1, 0, 1, 63, 64, 65, api.MaxSectors - 65, api.MaxSectors - 64, api.MaxSectors - 2, api.MaxSectors - 1} {
		wantFree(t, r, from, api.MaxSectors-1)
	}
	wantDrop(t, r, 40000, true)
	wantFree(t, r, 0, 40000)
	wantFree(t, r, 40000, 40000)
	wantFree(t, r, 40001, api.MaxSectors-1)
}

// P12.2: a clone is as the row, and of its own.
func TestClone(t *testing.T) {
	for _, size := range []int{1, 64, 65, 200} {
		r := made(t, size, 0, 0, size-1)
		times := make([]int, size)
		times[0] += 2
		times[size-1]++
		c := r.Clone()
		wantTimes(t, c, times)
		wantEqual(t, r, c, true)
		hold(t, c, size/2)
		wantTimes(t, r, times)
		wantEqual(t, r, c, false)
		wantDrop(t, r, 0, false)
		wantDrop(t, c, size/2, size > 1)
		wantTimes(t, c, times)
		again := c.Clone().Clone()
		for range times[0] {
			c.Drop(0)
		}
		wantTimes(t, again, times)
		if free, e := again.Drop(0); free || e != api.OK {
			t.Errorf("Drop of a clone's clone: %v, %v", free, e)
		}
	}
	all := made(t, 64)
	for i := range 64 {
		hold(t, all, i)
	}
	c := all.Clone()
	wantDrop(t, c, 7, true)
	wantNoneFree(t, all, 0)
	wantFree(t, c, 0, 7)
	wantDrop(t, all, 9, true)
	wantNoneFree(t, c, 8)
}

// P12.2: rows are equal whose sizes are, and whose places are held as often, whatever was done ahead.
func TestEqual(t *testing.T) {
	a := made(t, 100, 3, 3, 70)
	wantEqual(t, a, a, true)
	wantEqual(t, a, made(t, 100, 70, 3, 3), true)
	wantEqual(t, a, made(t, 100, 3, 70), false)
	wantEqual(t, a, made(t, 100, 3, 3, 3, 70), false)
	wantEqual(t, a, made(t, 100, 3, 3, 71), false)
	wantEqual(t, a, made(t, 100, 3, 3), false)
	wantEqual(t, a, made(t, 100, 3, 3, 70, 99), false)
	wantEqual(t, a, made(t, 100), false)
	wantEqual(t, a, made(t, 101, 3, 3, 70), false)
	wantEqual(t, a, made(t, 128, 3, 3, 70), false)
	wantEqual(t, made(t, 1), made(t, 2), false)
	wantEqual(t, made(t, 65), made(t, 66), false)
	wantEqual(t, made(t, 7), made(t, 7), true)
	b := made(t, 100, 99, 3, 0, 3, 70, 0)
	wantDrop(t, b, 0, false)
	wantDrop(t, b, 99, true)
	wantEqual(t, a, b, false)
	wantDrop(t, b, 0, true)
	wantEqual(t, a, b, true)
}

// P12.1, P12.2: of nil, or a row that no call made.
func TestNoRow(t *testing.T) {
	for _, r := range []*bits.Row{nil, {}, new(bits.Row)} {
		for range 2 {
			for _, i := range append(noPlaces(1), 0) {
				if e := r.Hold(i); e != api.ErrNil {
					t.Errorf("Hold(%d): %v", i, e)
				}
				wantNoDrop(t, r, i, api.ErrNil)
				wantNoneFree(t, r, i)
				if r.Times(i) != 0 {
					t.Errorf("Times(%d): %d", i, r.Times(i))
				}
			}
			if r.Size() != 0 || r.Taken() != 0 || r.Clone() != nil {
				t.Errorf("Size, Taken and Clone: %d %d %v", r.Size(), r.Taken(), r.Clone())
			}
			for _, other := range []*bits.Row{nil, {}} {
				wantEqual(t, r, other, true)
			}
			wantEqual(t, r, made(t, 1), false)
			wantEqual(t, r, made(t, 64, 3), false)
		}
	}
}

// P12.1 to P12.4: many steps, held against a plain list of times.
func TestSteps(t *testing.T) {
	for _, size := range []int{1, 2, 5, 64, 65, 130} {
		chance := rand.New(rand.NewPCG(uint64(size), 12))
		r, times := made(t, size), make([]int, size)
		for step := range 1500 {
			i, more := chance.IntN(size), chance.IntN(8) < 3+2*(step/500%2)
			switch {
			case more:
				hold(t, r, i)
				times[i]++
			case times[i] == 0:
				wantNoDrop(t, r, i, api.ErrState)
			default:
				times[i]--
				wantDrop(t, r, i, times[i] == 0)
			}
			wantTimes(t, r, times)
			if step%100 == 0 {
				old := r
				r = r.Clone()
				wantEqual(t, r, old, true)
			}
		}
	}
}
