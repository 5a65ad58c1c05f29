package sha

import (
	"math/big"
	"testing"
)

// primes are the first n primes.
func primes(n int) []int64 {
	var l []int64
next:
	for v := int64(2); len(l) < n; v++ {
		for _, p := range l {
			if v%p == 0 {
				continue next
			}
		}
		l = append(l, v)
	}
	return l
}

// isRoot tells whether digits are the first 32 behind the point of the root of p: with the root's whole part ahead of them they are the greatest number whose power is not above p times 2^(32 power).
func isRoot(digits uint32, p int64, power int64) bool {
	e := big.NewInt(power)
	whole := int64(1)
	for new(big.Int).Exp(big.NewInt(whole+1), e, nil).Cmp(big.NewInt(p)) <= 0 {
		whole++
	}
	bound := new(big.Int).Lsh(big.NewInt(p), uint(32*power))
	least := big.NewInt(whole<<32 + int64(digits))
	more := big.NewInt(whole<<32 + int64(digits) + 1)
	return least.Exp(least, e, nil).Cmp(bound) <= 0 && more.Exp(more, e, nil).Cmp(bound) > 0
}

// P2.1: the tables are what the document's words say of them, each number.
func TestTables(t *testing.T) {
	l := primes(64)
	if l[63] != 311 {
		t.Fatalf("the last prime is %d", l[63])
	}
	if squareRoots[0] != 1779033703 || cubeRoots[0] != 1116352408 || cubeRoots[63] != 3329325298 {
		t.Error("the document's own numbers are not there")
	}
	for i, v := range squareRoots {
		if !isRoot(v, l[i], 2) {
			t.Errorf("the square root of %d: %d", l[i], v)
		}
	}
	for i, v := range cubeRoots {
		if !isRoot(v, l[i], 3) {
			t.Errorf("the cube root of %d: %d", l[i], v)
		}
	}
}

func BenchmarkSector(b *testing.B) {
	text := make([]byte, 512)
	b.SetBytes(512)
	for b.Loop() {
		Sum(text)
	}
}
