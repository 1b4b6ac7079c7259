package tests

import (
	"fmt"
	"math"
	"math/rand"
	"testing"

	"loop.example/g00003/impl"
)

// newChance is the same in every run, so that a failing test fails again.
func newChance() *rand.Rand { return rand.New(rand.NewSource(20240607)) }

func randomBytes(chance *rand.Rand, n int) []byte {
	b := make([]byte, n)
	for i := range b {
		b[i] = byte(chance.Intn(256))
	}
	return b
}

// edgeNumbers are int64s at which ranges of the document begin or end, and those far outside of all of them.
func edgeNumbers() []int64 {
	var list []int64
	for _, n := range []int64{0, 255, 65535, 65536, 1 << 31, 1<<32 - 1, 1 << 32, 1 << 33, 1<<48 - 1, 1 << 48, 1 << 62} {
		for d := int64(-2); d <= 2; d++ {
			list = append(list, n+d, -n+d)
		}
	}
	return append(list, math.MinInt64, math.MinInt64+1, math.MaxInt64-1, math.MaxInt64)
}

// shortly shows a value with great lists by its beginning.
func shortly(value any) string {
	text := fmt.Sprintf("%+v", value)
	return text[:min(len(text), 300)]
}

// step is an operation of a run, and what it must tell.
type step[Op, Out any] struct {
	op   Op
	want Out
}

// runAll asks that a run takes its operations, and tells something of each.
func runAll[Op, Out any](t *testing.T, run func([]Op) ([]Out, int64), ops []Op) []Out {
	t.Helper()
	outs, code := run(ops)
	if code != impl.OK || len(outs) != len(ops) {
		t.Fatalf("a run of %d operations: %d answers, %d", len(ops), len(outs), code)
	}
	return outs
}

func checkRunOf[Op, Out any](t *testing.T, run func([]Op) ([]Out, int64), same func(a, b Out) bool, steps []step[Op, Out]) {
	t.Helper()
	var ops []Op
	for _, s := range steps {
		ops = append(ops, s.op)
	}
	for i, out := range runAll(t, run, ops) {
		if !same(out, steps[i].want) {
			t.Errorf("operation %d, %s: %s, not %s", i, shortly(ops[i]), shortly(out), shortly(steps[i].want))
		}
	}
}
