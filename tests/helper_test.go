package tests

import (
	"bytes"
	"fmt"
	"math"
	"math/rand"
	"slices"
	"testing"

	"loop.example/g00003/impl"
)

// newChance is the same in every run, so that a failing test fails again.
func newChance() *rand.Rand { return rand.New(rand.NewSource(20240607)) }

func randomBytes(chance *rand.Rand, n int) []byte {
	b := make([]byte, n)
	for i := range b {
		b[i] = byte(chance.Intn(256))
	}
	return b
}

// edgeNumbers are int64s at which ranges of the document begin or end, and those far outside of all of them.
func edgeNumbers() []int64 {
	var list []int64
	for _, n := range []int64{0, 255, 65535, 65536, 1 << 31, 1<<32 - 1, 1 << 32, 1 << 33, 1<<48 - 1, 1 << 48, 1 << 62} {
		for d := int64(-2); d <= 2; d++ {
			list = append(list, n+d, -n+d)
		}
	}
	return append(list, math.MinInt64, math.MinInt64+1, math.MaxInt64-1, math.MaxInt64)
}

// aboutEnds are numbers at and beside ends, and edgeNumbers.
func aboutEnds(ends ...int64) []int64 {
	list := edgeNumbers()
	for _, n := range ends {
		list = append(list, n-1, n, n+1)
	}
	slices.Sort(list)
	return slices.Compact(list)
}

// shortly shows a value with great lists by its beginning.
func shortly(value any) string {
	text := fmt.Sprintf("%+v", value)
	return text[:min(len(text), 300)]
}

// step is an operation of a run, and what it must tell.
type step[Op, Out any] struct {
	op   Op
	want Out
}

// runAll asks that a run takes its operations, and tells something of each.
func runAll[Op, Out any](t *testing.T, run func([]Op) ([]Out, int64), ops []Op) []Out {
	t.Helper()
	outs, code := run(ops)
	if code != impl.OK || len(outs) != len(ops) {
		t.Fatalf("a run of %d operations: %d answers, %d", len(ops), len(outs), code)
	}
	return outs
}

func checkRunOf[Op, Out any](t *testing.T, run func([]Op) ([]Out, int64), same func(a, b Out) bool, steps []step[Op, Out]) {
	t.Helper()
	var ops []Op
	for _, s := range steps {
		ops = append(ops, s.op)
	}
	for i, out := range runAll(t, run, ops) {
		if !same(out, steps[i].want) {
			t.Errorf("operation %d, %s: %s, not %s", i, shortly(ops[i]), shortly(out), shortly(steps[i].want))
		}
	}
}

// byteFault is something that makes bytes ill, and the code that tells it.
type byteFault struct {
	make func([]byte)
	code int64
}

// makeFaults spoils bytes by the chosen ones of faults, which are in the document's order, and gives the first one's
// code. The sum is made right for all the other faults, and only then perhaps wrong.
func makeFaults(b []byte, faults []byteFault, choice int, resum func()) int64 {
	first := int64(impl.OK)
	wrongSum := func([]byte) {}
	for i, fault := range faults {
		if choice>>i&1 == 0 {
			continue
		}
		if first == impl.OK {
			first = fault.code
		}
		if fault.code == impl.ErrSum {
			wrongSum = fault.make
		} else {
			fault.make(b)
		}
	}
	resum()
	wrongSum(b)
	return first
}

// checkWritesApart asks that what is written of lists in room is the same again, stands in new memory each time, and
// leaves all of the room as it is.
func checkWritesApart(t *testing.T, room []byte, write func() ([]byte, int64)) {
	t.Helper()
	kept := bytes.Clone(room)
	first, code := write()
	told := bytes.Clone(first)
	second, codeAgain := write()
	if !bytes.Equal(second, told) || code != codeAgain {
		t.Errorf("%d bytes, %d, and %d bytes, %d, the second time", len(told), code, len(second), codeAgain)
	}
	spoil(second, 99)
	if !bytes.Equal(first, told) || !bytes.Equal(room, kept) {
		t.Errorf("an answer of %d bytes shares memory", len(told))
	}
	clear(room)
	if !bytes.Equal(first, told) {
		t.Errorf("an answer of %d bytes is the argument's memory", len(told))
	}
}

// checkReadsApart asks that bytes in the midst of others are read as want each time, and that none of the lists in what
// is read stands in the bytes, in another answer, or in another of the lists.
func checkReadsApart[T any](t *testing.T, b []byte, read func([]byte) (T, int64), same func(a, b T) bool, want T, lists ...func(T) []byte) {
	t.Helper()
	room := append(append([]byte{9, 9, 9}, b...), bytes.Repeat([]byte{7}, 60)...)
	kept := bytes.Clone(room)
	within := room[3 : 3+len(b)]
	first, _ := read(within)
	for i := range lists {
		again, code := read(within)
		if !same(again, want) || code != impl.OK {
			t.Fatalf("%.60x are read as %s, %d, not %s", b, shortly(again), code, shortly(want))
		}
		spoil(lists[i](again), 99)
		for k := range lists {
			if k != i && !bytes.Equal(lists[k](again), lists[k](want)) {
				t.Errorf("two lists of %s share memory", shortly(want))
			}
		}
	}
	if !same(first, want) || !bytes.Equal(room, kept) {
		t.Errorf("%s shares memory", shortly(want))
	}
	clear(room)
	if !same(first, want) {
		t.Errorf("%s is in the argument's memory", shortly(want))
	}
}

// stretches are those of texts like "3-7".
func stretches(texts ...string) []impl.Stretch {
	var list []impl.Stretch
	for _, text := range texts {
		var s impl.Stretch
		if n, err := fmt.Sscanf(text, "%d-%d", &s.From, &s.To); n != 2 || err != nil {
			panic(text)
		}
		list = append(list, s)
	}
	return list
}
