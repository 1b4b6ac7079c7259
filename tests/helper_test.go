package tests

import (
	"math"
	"math/rand"
)

// newChance is the same in every run, so that a failing test fails again.
func newChance() *rand.Rand { return rand.New(rand.NewSource(20240607)) }

func randomBytes(chance *rand.Rand, n int) []byte {
	b := make([]byte, n)
	for i := range b {
		b[i] = byte(chance.Intn(256))
	}
	return b
}

// edgeNumbers are int64s at which ranges of the document begin or end, and those far outside of all of them.
func edgeNumbers() []int64 {
	var list []int64
	for _, n := range []int64{0, 255, 65535, 65536, 1 << 31, 1<<32 - 1, 1 << 32, 1 << 33, 1<<48 - 1, 1 << 48, 1 << 62} {
		for d := int64(-2); d <= 2; d++ {
			list = append(list, n+d, -n+d)
		}
	}
	return append(list, math.MinInt64, math.MinInt64+1, math.MaxInt64-1, math.MaxInt64)
}
