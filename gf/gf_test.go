package gf_test

import (
	"math"
	"testing"

	"casemate/gf"
)

// product is a product by the document's words: all powers first, then what is too great is taken away by the modulus, from the greatest power down.
func product(a, b byte) byte {
	v := 0
	for i := range 8 {
		if b>>i&1 == 1 {
			v ^= int(a) << i
		}
	}
	for i := 14; i >= 8; i-- {
		if v>>i&1 == 1 {
			v ^= 0b100011011 << (i - 8)
		}
	}
	return byte(v)
}

// P4.1: the product, of all pairs.
func TestMul(t *testing.T) {
	for _, c := range []struct{ a, b, want byte }{
		{87, 131, 193}, {87, 19, 254}, {0, 0, 0}, {0, 255, 0}, {255, 0, 0}, {1, 255, 255}, {255, 1, 255}, {2, 128, 27}, {128, 2, 27}, {83, 202, 1},
	} {
		if got := gf.Mul(c.a, c.b); got != c.want {
			t.Errorf("Mul of %d and %d: %d, want %d", c.a, c.b, got, c.want)
		}
	}
	for a := range 256 {
		for b := range 256 {
			if got, want := gf.Mul(byte(a), byte(b)), product(byte(a), byte(b)); got != want {
				t.Fatalf("Mul of %d and %d: %d, want %d", a, b, got, want)
			}
		}
	}
}

// P4.1: the inverse is the only byte whose product is 1; of 0 it is 0.
func TestInverse(t *testing.T) {
	if got := gf.Inverse(0); got != 0 {
		t.Errorf("Inverse of 0: %d", got)
	}
	for a := 1; a < 256; a++ {
		for b := range 256 {
			if (product(byte(a), byte(b)) == 1) != (gf.Inverse(byte(a)) == byte(b)) {
				t.Fatalf("Inverse of %d: %d", a, gf.Inverse(byte(a)))
			}
		}
	}
}

// P4.1: powers, step by step.
func TestPower(t *testing.T) {
	for a := range 256 {
		want := byte(1)
		for n := range 600 {
			if got := gf.Power(byte(a), n); got != want {
				t.Fatalf("Power of %d, %d times: %d, want %d", a, n, got, want)
			}
			want = product(want, byte(a))
		}
	}
}

// P4.1: of no times, or fewer, each byte's power is 1, 0's too.
func TestPowerOfNothing(t *testing.T) {
	for a := range 256 {
		for _, n := range []int{0, -1, -2, -254, -255, math.MinInt + 1, math.MinInt} {
			if got := gf.Power(byte(a), n); got != 1 {
				t.Fatalf("Power of %d, %d times: %d", a, n, got)
			}
		}
	}
}

// P4.1, P1: the greatest count ends, and is right: each byte but 0 is 1 behind 255 times.
func TestPowerOfMost(t *testing.T) {
	for a := range 256 {
		for _, n := range []int{math.MaxInt32, math.MaxInt - 1, math.MaxInt} {
			if got, want := gf.Power(byte(a), n), gf.Power(byte(a), n%255+255); got != want {
				t.Fatalf("Power of %d, %d times: %d, want %d", a, n, got, want)
			}
		}
	}
}

// P4.3: products hang neither on their order nor on how they are put together, and go into sums.
func TestProductsFollow(t *testing.T) {
	for a := range 256 {
		for b := range 256 {
			x, y := byte(a), byte(b)
			if gf.Mul(x, y) != gf.Mul(y, x) {
				t.Fatalf("the order of %d and %d counts", a, b)
			}
			for c := 0; c < 256; c += 5 {
				z := byte(c)
				if gf.Mul(gf.Mul(x, y), z) != gf.Mul(x, gf.Mul(y, z)) {
					t.Fatalf("how %d, %d and %d are put together counts", a, b, c)
				}
				if gf.Mul(x, y^z) != gf.Mul(x, y)^gf.Mul(x, z) {
					t.Fatalf("%d times the sum of %d and %d", a, b, c)
				}
			}
		}
	}
}

// P4.4: what is not 0 times its inverse is 1.
func TestTimesInverse(t *testing.T) {
	for a := range 256 {
		want := byte(1)
		if a == 0 {
			want = 0
		}
		if got := gf.Mul(byte(a), gf.Inverse(byte(a))); got != want {
			t.Errorf("%d times its inverse: %d", a, got)
		}
	}
}
