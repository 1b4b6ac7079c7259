package tests

import (
	"math"
	"math/rand"
	"slices"
	"testing"

	"loop.example/g00003/impl"
)

const (
	mostMss  = 65535
	mostCwnd = 1073741824
)

// window has its numbers in the order of their fields.
func window(mss, cwnd, ssthresh, count int64) impl.Cong {
	return impl.Cong{Mss: mss, Cwnd: cwnd, Ssthresh: ssthresh, Count: count}
}

// congCall is one of the calls that make a window of another one and, but for CongIdle, a number; valid tells whether
// the number is one that the document allows for a valid window, and model what is to come of them.
type congCall struct {
	name  string
	call  func(c impl.Cong, n int64) (impl.Cong, int64)
	valid func(c impl.Cong, n int64) bool
	model func(c impl.Cong, n int64) impl.Cong
}

func modelValidCong(c impl.Cong) bool {
	return c.Mss >= 1 && c.Mss <= mostMss && c.Cwnd >= c.Mss && c.Cwnd <= mostCwnd &&
		c.Ssthresh >= c.Mss+c.Mss && c.Ssthresh <= mostCwnd && within(c.Count, c.Cwnd-1)
}

func modelFirst(mss int64) int64 {
	most := int64(4380)
	if mss > 2190 {
		most = mss + mss
	}
	if mss < 1095 {
		return 4 * mss
	}
	return most
}

func modelAck(c impl.Cong, n int64) impl.Cong {
	grows := int64(0)
	if c.Cwnd < c.Ssthresh {
		grows = c.Mss
		if n < c.Mss {
			grows = n
		}
	} else if c.Cwnd-c.Count <= n {
		grows = c.Mss
		c.Count = 0
	} else {
		c.Count += n
	}
	c.Cwnd += grows
	if c.Cwnd > mostCwnd {
		c.Cwnd = mostCwnd
	}
	return c
}

func modelHalf(mss, flight int64) int64 {
	half := (flight - flight%2) / 2
	if half < mss+mss {
		half = mss + mss
	}
	return half
}

func modelIdle(c impl.Cong) impl.Cong {
	if first := modelFirst(c.Mss); c.Cwnd > first {
		c.Cwnd = first
	}
	c.Count = 0
	return c
}

func congCalls() []congCall {
	flight := func(_ impl.Cong, n int64) bool { return within(n, mostCwnd) }
	return []congCall{
		{"CongAck", impl.CongAck, func(_ impl.Cong, n int64) bool { return n >= 1 && n <= mostCwnd }, modelAck},
		{"CongLoss", impl.CongLoss, flight, func(c impl.Cong, n int64) impl.Cong {
			return window(c.Mss, modelHalf(c.Mss, n), modelHalf(c.Mss, n), 0)
		}},
		{"CongTimeout", impl.CongTimeout, flight, func(c impl.Cong, n int64) impl.Cong {
			return window(c.Mss, c.Mss, modelHalf(c.Mss, n), 0)
		}},
		{"CongIdle", func(c impl.Cong, _ int64) (impl.Cong, int64) { return impl.CongIdle(c) },
			func(impl.Cong, int64) bool { return true },
			func(c impl.Cong, _ int64) impl.Cong { return modelIdle(c) }},
		{"CongMss", impl.CongMss, func(c impl.Cong, n int64) bool { return n >= 1 && n <= c.Mss },
			func(c impl.Cong, n int64) impl.Cong { return window(n, c.Cwnd, c.Ssthresh, c.Count) }},
	}
}

// checkAll asks all calls for what the model says of a window and a number. P51: each of them twice.
func checkAll(t *testing.T, c impl.Cong, n int64) {
	t.Helper()
	for _, call := range congCalls() {
		want, wantCode := impl.Cong{}, int64(impl.ErrForm)
		if modelValidCong(c) && call.valid(c, n) {
			want, wantCode = call.model(c, n), impl.OK
		}
		for range 2 {
			if got, code := call.call(c, n); got != want || code != wantCode {
				t.Errorf("%s(%+v, %d): %+v, %d, not %+v, %d", call.name, c, n, got, code, want, wantCode)
			}
		}
	}
}

func checkCong(t *testing.T, name string, want impl.Cong) func(got impl.Cong, code int64) {
	return func(got impl.Cong, code int64) {
		t.Helper()
		if got != want || code != impl.OK {
			t.Errorf("%s: %+v, %d, not %+v", name, got, code, want)
		}
	}
}

func checkNoCong(t *testing.T, name string) func(got impl.Cong, code int64) {
	return func(got impl.Cong, code int64) {
		t.Helper()
		if got != (impl.Cong{}) || code != impl.ErrForm {
			t.Errorf("%s: %+v, %d, not ErrForm", name, got, code)
		}
	}
}

func TestCongBegins(t *testing.T) {
	for mss, cwnd := range map[int64]int64{
		1: 4, 2: 8, 536: 2144, 1094: 4376, 1095: 4380, 1096: 4380, 1460: 4380, 2189: 4380, 2190: 4380, 2191: 4382,
		3000: 6000, 65534: 131068, 65535: 131070,
	} {
		checkCong(t, "NewCong", window(mss, cwnd, mostCwnd, 0))(impl.NewCong(mss))
	}
	for mss := int64(1); mss <= mostMss; mss++ {
		checkCong(t, "NewCong", window(mss, modelFirst(mss), mostCwnd, 0))(impl.NewCong(mss))
	}
	for _, mss := range append(edgeNumbers(), -1, 0, mostMss+1) {
		if mss < 1 || mss > mostMss {
			checkNoCong(t, "NewCong")(impl.NewCong(mss))
		}
	}
}

func TestCongGrowsFast(t *testing.T) {
	below := window(1000, 4000, 8000, 0)
	for n, cwnd := range map[int64]int64{1: 4001, 999: 4999, 1000: 5000, 1001: 5000, 4000: 5000, mostCwnd: 5000} {
		checkCong(t, "below Ssthresh", window(1000, cwnd, 8000, 0))(impl.CongAck(below, n))
	}
	// What was counted stays, and does not help.
	checkCong(t, "with a Count", window(1000, 5000, 8000, 3999))(impl.CongAck(window(1000, 4000, 8000, 3999), 5000))
	checkCong(t, "with a Count", window(1000, 4001, 8000, 3999))(impl.CongAck(window(1000, 4000, 8000, 3999), 1))
	checkCong(t, "just below", window(1000, 8999, 8000, 0))(impl.CongAck(window(1000, 7999, 8000, 0), 1000))
	checkCong(t, "at Ssthresh", window(1000, 8000, 8000, 1000))(impl.CongAck(window(1000, 8000, 8000, 0), 1000))
	checkCong(t, "above Ssthresh", window(1000, 8001, 8000, 1000))(impl.CongAck(window(1000, 8001, 8000, 0), 1000))
	checkCong(t, "one segment", window(5, 10, 10, 0))(impl.CongAck(window(5, 5, 10, 0), 5))
}

func TestCongGrowsSlowly(t *testing.T) {
	checkCong(t, "one less", window(1000, 5000, 4000, 4999))(impl.CongAck(window(1000, 5000, 4000, 3000), 1999))
	checkCong(t, "just Cwnd", window(1000, 6000, 4000, 0))(impl.CongAck(window(1000, 5000, 4000, 3000), 2000))
	checkCong(t, "more", window(1000, 6000, 4000, 0))(impl.CongAck(window(1000, 5000, 4000, 3000), 2001))
	checkCong(t, "far more", window(1000, 6000, 4000, 0))(impl.CongAck(window(1000, 5000, 4000, 3000), mostCwnd))
	checkCong(t, "the last byte", window(1000, 6000, 4000, 0))(impl.CongAck(window(1000, 5000, 4000, 4999), 1))
	checkCong(t, "all at once", window(1000, 6000, 5000, 0))(impl.CongAck(window(1000, 5000, 5000, 0), 5000))
	checkCong(t, "nearly all at once", window(1000, 5000, 5000, 4999))(impl.CongAck(window(1000, 5000, 5000, 0), 4999))
	checkCong(t, "small segments", window(1, 3, 2, 0))(impl.CongAck(window(1, 2, 2, 1), 1))
}

func TestCongGrowsToItsEnd(t *testing.T) {
	checkCong(t, "fast", window(1000, mostCwnd, mostCwnd, 7))(impl.CongAck(window(1000, mostCwnd-999, mostCwnd, 7), 1000))
	checkCong(t, "fast by a byte", window(1000, mostCwnd, mostCwnd, 7))(impl.CongAck(window(1000, mostCwnd-1, mostCwnd, 7), 1))
	checkCong(t, "fast to the end", window(1000, mostCwnd, mostCwnd, 0))(impl.CongAck(window(1000, mostCwnd-1000, mostCwnd, 0), 5000))
	checkCong(t, "slowly", window(1000, mostCwnd, 2000, 0))(impl.CongAck(window(1000, mostCwnd-999, 2000, 9), mostCwnd))
	checkCong(t, "slowly to the end", window(1000, mostCwnd, 2000, 0))(impl.CongAck(window(1000, mostCwnd-1000, 2000, 9), mostCwnd))
	checkCong(t, "at the end", window(mostMss, mostCwnd, mostCwnd, 0))(impl.CongAck(window(mostMss, mostCwnd, mostCwnd, mostCwnd-1), 1))
	checkCong(t, "counting at the end", window(mostMss, mostCwnd, mostCwnd, mostCwnd-1))(impl.CongAck(window(mostMss, mostCwnd, mostCwnd, 0), mostCwnd-1))
	checkCong(t, "all", window(mostMss, mostCwnd, mostCwnd, 0))(impl.CongAck(window(mostMss, mostCwnd, mostCwnd, mostCwnd-1), mostCwnd))
}

func TestCongLosesAndWaits(t *testing.T) {
	for flight, half := range map[int64]int64{
		0: 2000, 1: 2000, 3999: 2000, 4000: 2000, 4001: 2000, 4002: 2001, 4003: 2001, 9001: 4500,
		mostCwnd - 1: mostCwnd/2 - 1, mostCwnd: mostCwnd / 2,
	} {
		for _, c := range []impl.Cong{
			window(1000, 5500, mostCwnd, 0), window(1000, 5500, 2000, 77), window(1000, 1000, 2000, 999),
			window(1000, mostCwnd, mostCwnd, mostCwnd-1),
		} {
			checkCong(t, "CongLoss", window(1000, half, half, 0))(impl.CongLoss(c, flight))
			checkCong(t, "CongTimeout", window(1000, 1000, half, 0))(impl.CongTimeout(c, flight))
		}
	}
	checkCong(t, "great segments", window(mostMss, 2*mostMss, 2*mostMss, 0))(impl.CongLoss(window(mostMss, mostMss, 2*mostMss, 5), 4*mostMss+1))
	checkCong(t, "small segments", window(1, 1, 5, 0))(impl.CongTimeout(window(1, 100, 2, 5), 11))
}

func TestCongIdles(t *testing.T) {
	for from, to := range map[int64]int64{1000: 1000, 3999: 3999, 4000: 4000, 4001: 4000, mostCwnd: 4000} {
		checkCong(t, "CongIdle", window(1000, to, 9000, 0))(impl.CongIdle(window(1000, from, 9000, 0)))
		checkCong(t, "CongIdle", window(1000, to, 2000, 0))(impl.CongIdle(window(1000, from, 2000, from-1)))
	}
	checkCong(t, "CongIdle", window(1460, 4380, 9000, 0))(impl.CongIdle(window(1460, 4381, 9000, 8)))
	checkCong(t, "CongIdle", window(3000, 6000, 9000, 0))(impl.CongIdle(window(3000, 6001, 9000, 8)))
	checkCong(t, "CongIdle", window(1, 4, 9000, 0))(impl.CongIdle(window(1, 5, 9000, 4)))
}

func TestCongSmallerSegments(t *testing.T) {
	c := window(1000, 1500, 2000, 1499)
	for _, mss := range []int64{1, 600, 999, 1000} {
		checkCong(t, "CongMss", window(mss, 1500, 2000, 1499))(impl.CongMss(c, mss))
	}
	for _, mss := range aboutEnds(0, 1001, mostMss) {
		if mss < 1 || mss > 1000 {
			checkNoCong(t, "CongMss")(impl.CongMss(c, mss))
		}
	}
	checkCong(t, "CongMss", window(mostMss, mostMss, 2*mostMss, 0))(impl.CongMss(window(mostMss, mostMss, 2*mostMss, 0), mostMss))
	checkNoCong(t, "CongMss")(impl.CongMss(window(mostMss, mostMss, 2*mostMss, 0), mostMss+1))
	checkNoCong(t, "CongMss")(impl.CongMss(window(1, 1, 2, 0), 2))
	// A window of such great segments is not valid, whatever the new ones are.
	checkNoCong(t, "CongMss")(impl.CongMss(window(mostMss+1, mostMss+1, 2*mostMss+2, 0), 5))
	checkNoCong(t, "CongMss")(impl.CongMss(impl.Cong{}, 0))
}

func TestCongNumbersThatAreNotValid(t *testing.T) {
	c := window(1000, 5500, 2000, 77)
	checkNoCong(t, "CongAck of 0")(impl.CongAck(c, 0))
	for _, n := range aboutEnds(0, mostCwnd) {
		if !within(n, mostCwnd) {
			checkNoCong(t, "CongAck")(impl.CongAck(c, n))
			checkNoCong(t, "CongLoss")(impl.CongLoss(c, n))
			checkNoCong(t, "CongTimeout")(impl.CongTimeout(c, n))
		}
	}
}

func TestCongThatIsNotValid(t *testing.T) {
	for _, c := range []impl.Cong{
		{}, window(0, 5, 9, 0), window(0, 0, 0, 0), window(-1, 5, 9, 0), window(mostMss+1, 2*mostMss+2, 2*mostMss+2, 0),
		window(1000, 999, 2000, 0), window(1000, mostCwnd+1, 2000, 0), window(1000, 0, 2000, 0), window(1000, -1000, 2000, 0),
		window(1000, 1000, 1999, 0), window(1000, 1000, mostCwnd+1, 0), window(1000, 1000, 0, 0),
		window(1000, 1000, 2000, -1), window(1000, 1000, 2000, 1000), window(1000, 1000, 2000, 1001),
		window(0, -1, 1, -1), window(-5, mostCwnd+1, 1, mostCwnd+2),
	} {
		for _, n := range []int64{-1, 0, 1, 500, mostCwnd, mostCwnd + 1} {
			for _, call := range congCalls() {
				checkNoCong(t, call.name)(call.call(c, n))
			}
		}
	}
}

// One field at a time goes through all its ends, and all fields together through the nearest ones.
func TestCongEnds(t *testing.T) {
	numbers := []int64{-1, 0, 1, 2, 999, 1000, 1001, mostCwnd, mostCwnd + 1}
	for _, n := range aboutEnds(0, 1, 1000, 2000, mostMss, 2*mostMss, mostCwnd) {
		checkAll(t, window(n, 200000, 200000, 100), 1)
		checkAll(t, window(1000, n, 9000, 0), 50000)
		checkAll(t, window(1000, 9000, n, 0), 50000)
		checkAll(t, window(1000, 9000, 9000, n), 50000)
		checkAll(t, window(1000, 9000, 9000, 50), n)
		checkAll(t, window(1000, n, n, n-1), n)
		checkAll(t, window(n, n, 2*n, 0), n)
	}
	for _, mss := range []int64{0, 1, 2, 1000, 1095, 1096, 2190, 2191, mostMss, mostMss + 1} {
		for _, cwnd := range []int64{mss - 1, mss, mss + 1, 2*mss - 1, 2 * mss, 2*mss + 1, mostCwnd - mss, mostCwnd - 1, mostCwnd, mostCwnd + 1} {
			for _, ssthresh := range []int64{2*mss - 1, 2 * mss, cwnd - 1, cwnd, cwnd + 1, mostCwnd, mostCwnd + 1} {
				for _, count := range []int64{-1, 0, 1, cwnd - 1, cwnd} {
					for _, n := range append(numbers, mss-1, mss, mss+1, cwnd-count-1, cwnd-count, cwnd-count+1) {
						checkAll(t, window(mss, cwnd, ssthresh, count), n)
					}
				}
			}
		}
	}
}

// congScript goes on from a window by calls of all kinds, mostly acknowledgements, and tells each step of it.
func congScript(t *testing.T, chance *rand.Rand, c impl.Cong, steps int, look func(name string, n int64, from, to impl.Cong)) {
	t.Helper()
	calls := congCalls()
	for range steps {
		call := calls[0]
		if chance.Intn(8) == 0 {
			call = calls[chance.Intn(len(calls))]
		}
		n := 1 + chance.Int63n([]int64{3, c.Mss, 3 * c.Mss, c.Cwnd, mostCwnd}[chance.Intn(5)])
		if call.name == "CongMss" {
			n = 1 + (c.Mss-1)*(9+chance.Int63n(2))/10
		}
		checkAll(t, c, n)
		next, code := call.call(c, n)
		if code != impl.OK || !modelValidCong(next) {
			t.Fatalf("%s(%+v, %d): %+v, %d", call.name, c, n, next, code)
		}
		look(call.name, n, c, next)
		c = next
	}
}

// P20: a window grows by no more than was acknowledged since it began anew, and by at most Mss at a time; a loss leaves
// it at half of what was on the way, or twice Mss. What is answered is valid, so that the next call takes it.
func TestCongGrowsByWhatIsAcknowledged(t *testing.T) {
	chance := newChance()
	for range 400 {
		c, _ := impl.NewCong(1 + chance.Int63n([]int64{5, 1500, mostMss}[chance.Intn(3)]))
		begun, acked := c.Cwnd, int64(0)
		congScript(t, chance, c, 120, func(name string, n int64, from, to impl.Cong) {
			switch name {
			case "CongAck":
				acked += n
				if to.Cwnd-from.Cwnd > from.Mss || to.Cwnd < from.Cwnd || to.Cwnd-begun > acked {
					t.Fatalf("from %+v to %+v by %d, of %d acknowledged since %d", from, to, n, acked, begun)
				}
			case "CongMss":
				if to.Cwnd != from.Cwnd {
					t.Fatalf("from %+v to %+v by another Mss", from, to)
				}
			case "CongLoss":
				if to.Cwnd != max(n/2, 2*from.Mss) || to.Ssthresh != to.Cwnd {
					t.Fatalf("from %+v to %+v by a loss of %d", from, to, n)
				}
				begun, acked = to.Cwnd, 0
			default:
				if to.Cwnd > from.Cwnd {
					t.Fatalf("from %+v to %+v by %s", from, to, name)
				}
				begun, acked = to.Cwnd, 0
			}
		})
	}
}

// P20: bytes that come one by one count as those that come at once, but for where they end.
func TestCongGrowsByteByByte(t *testing.T) {
	c := window(10, 20, 30, 0)
	for n := int64(1); n <= 200; n++ {
		c, _ = impl.CongAck(c, 1)
		// Fast from 20 to 30, then by 10 behind each 30, 40, 50 and 60.
		want := min(20+n, 30)
		for _, at := range []int64{40, 80, 130, 190} {
			if n >= at {
				want += 10
			}
		}
		if c.Cwnd != want {
			t.Fatalf("behind %d bytes %+v, not %d", n, c, want)
		}
	}
}

// modelShare knows nothing of windows: the ways in which all of them can go are two.
func modelShare(mss, room int64, starts []int64, rounds int64) []impl.ShareRow {
	var rows []impl.ShareRow
	now := slices.Clone(starts)
	for range rounds {
		rest := room
		for _, n := range now {
			rest -= n
		}
		row := impl.ShareRow{Lost: rest < 0}
		for i, n := range now {
			if row.Lost {
				now[i] = modelHalf(mss, n)
			} else {
				now[i] = min(n+mss, mostCwnd)
			}
		}
		row.Cwnds = slices.Clone(now)
		rows = append(rows, row)
	}
	return rows
}

func sameRow(a, b impl.ShareRow) bool { return a.Lost == b.Lost && slices.Equal(a.Cwnds, b.Cwnds) }

func sameRows(a, b []impl.ShareRow) bool { return slices.EqualFunc(a, b, sameRow) }

func cloneRows(rows []impl.ShareRow) []impl.ShareRow {
	list := slices.Clone(rows)
	for i := range list {
		list[i].Cwnds = slices.Clone(list[i].Cwnds)
	}
	return list
}

func checkShare(t *testing.T, mss, room int64, starts []int64, rounds int64) []impl.ShareRow {
	t.Helper()
	rows, code := impl.Share(mss, room, starts, rounds)
	if code != impl.OK || !sameRows(rows, modelShare(mss, room, starts, rounds)) {
		t.Fatalf("Share(%d, %d, %s, %d): %s, %d", mss, room, shortly(starts), rounds, shortly(rows), code)
	}
	return rows
}

func checkNoShare(t *testing.T, mss, room int64, starts []int64, rounds, want int64) {
	t.Helper()
	if rows, code := impl.Share(mss, room, starts, rounds); len(rows) != 0 || code != want {
		t.Errorf("Share(%d, %d, %s, %d): %s, %d, not %d", mss, room, shortly(starts), rounds, shortly(rows), code, want)
	}
}

func row(lost bool, cwnds ...int64) impl.ShareRow { return impl.ShareRow{Lost: lost, Cwnds: cwnds} }

func TestShareRounds(t *testing.T) {
	rows := checkShare(t, 100, 1000, []int64{200, 700}, 7)
	want := []impl.ShareRow{
		row(false, 300, 800), row(true, 200, 400), row(false, 300, 500), row(false, 400, 600), row(false, 500, 700),
		row(true, 250, 350), row(false, 350, 450),
	}
	if !sameRows(rows, want) {
		t.Errorf("%+v, not %+v", rows, want)
	}
	// Just the room is carried, one byte more is lost.
	for room, lost := range map[int64]bool{899: true, 900: false, 901: false} {
		if rows := checkShare(t, 100, room, []int64{200, 700}, 1); rows[0].Lost != lost {
			t.Errorf("room %d: %+v", room, rows)
		}
	}
	// A road that is too small is lost on in each round; an odd window loses its last byte.
	if rows := checkShare(t, 1, 1, []int64{9, 2}, 4); !sameRows(rows, []impl.ShareRow{
		row(true, 4, 2), row(true, 2, 2), row(true, 2, 2), row(true, 2, 2),
	}) {
		t.Errorf("%+v", rows)
	}
	if rows, code := impl.Share(100, 1000, []int64{200}, 0); len(rows) != 0 || code != impl.OK {
		t.Errorf("no round: %+v, %d", rows, code)
	}
	checkShare(t, 100, 1000, []int64{200}, 1)
}

func TestShareEnds(t *testing.T) {
	for _, mss := range []int64{1, 2, 1000, mostMss} {
		for _, room := range []int64{1, 2, 4*mss - 1, 4 * mss, 4*mss + 1, mostCwnd - 1, mostCwnd} {
			for _, n := range []int64{1, 2, 3, 63, 64} {
				starts := make([]int64, n)
				for i := range starts {
					starts[i] = []int64{2 * mss, mostCwnd, 2*mss + 1, mostCwnd - 1}[i%4]
				}
				for _, rounds := range []int64{0, 1, 2, 50} {
					checkShare(t, mss, room, starts, rounds)
				}
			}
		}
	}
	checkShare(t, mostMss, mostCwnd, slices.Repeat([]int64{mostCwnd}, 64), 2000)
	checkShare(t, 1000, 900000, []int64{mostCwnd, 2000, 5000}, 2000)
	// One flow alone may have all of the road, and is at its end then.
	rows := checkShare(t, mostMss, mostCwnd, []int64{mostCwnd - mostMss + 1}, 3)
	if !sameRows(rows, []impl.ShareRow{row(false, mostCwnd), row(false, mostCwnd), row(false, mostCwnd)}) {
		t.Errorf("at the end: %+v", rows)
	}
}

func TestShareRefuses(t *testing.T) {
	good := []int64{200, 700}
	for _, n := range aboutEnds(0, 1, 200, mostMss, 2000, mostCwnd) {
		if n < 1 || n > mostMss {
			checkNoShare(t, n, 1000, good, 3, impl.ErrForm)
			checkNoShare(t, n, 1000, []int64{2 * n, n}, 3, impl.ErrForm)
			checkNoShare(t, n, 1000, nil, 3, impl.ErrForm)
		}
		if n < 1 || n > mostCwnd {
			checkNoShare(t, 100, n, good, 3, impl.ErrForm)
		}
		if !within(n, 2000) {
			checkNoShare(t, 100, 1000, good, n, impl.ErrForm)
		}
		if n < 200 || n > mostCwnd {
			checkNoShare(t, 100, 1000, []int64{n}, 3, impl.ErrForm)
			checkNoShare(t, 100, 1000, []int64{n, 200, 700}, 3, impl.ErrForm)
			checkNoShare(t, 100, 1000, []int64{200, 700, n}, 3, impl.ErrForm)
		}
	}
	checkNoShare(t, 100, 1000, nil, 3, impl.ErrCount)
	checkNoShare(t, 100, 1000, []int64{}, 0, impl.ErrCount)
	checkNoShare(t, 100, 1000, slices.Repeat([]int64{200}, 65), 3, impl.ErrCount)
	checkNoShare(t, 100, 1000, slices.Repeat([]int64{200}, 100000), 0, impl.ErrCount)
}

// All of what is not valid is told ahead of how many flows there are, the last of too many starts, too.
func TestShareSeveralErrors(t *testing.T) {
	many := slices.Repeat([]int64{200}, 65)
	ill := append(slices.Clone(many), 199)
	for choice := range 32 {
		mss, room, rounds, starts := int64(100), int64(1000), int64(3), []int64(nil)
		if choice&1 != 0 {
			starts = many
		}
		if choice&2 != 0 {
			mss = 65536
		}
		if choice&4 != 0 {
			room = 0
		}
		if choice&8 != 0 {
			rounds = 2001
		}
		if choice&16 != 0 {
			starts = ill
		}
		want := int64(impl.ErrForm)
		if choice < 2 {
			want = impl.ErrCount
		}
		checkNoShare(t, mss, room, starts, rounds, want)
	}
	checkNoShare(t, math.MinInt64, math.MaxInt64, []int64{math.MinInt64}, math.MinInt64, impl.ErrForm)
	checkNoShare(t, 100, 1000, make([]int64, 65), 3, impl.ErrForm)
}

func randomStarts(chance *rand.Rand, mss, most int64, flows int) []int64 {
	starts := make([]int64, flows)
	for i := range starts {
		starts[i] = 2*mss + chance.Int63n(most-2*mss+1)
	}
	if chance.Intn(3) == 0 {
		starts[0] = 2 * mss
	}
	if chance.Intn(3) == 0 {
		starts[flows-1] = starts[0]
	}
	return starts
}

// A flow in Share is a window that has its own events: CongLoss or CongAck of its own Cwnd.
func TestShareIsMadeOfWindows(t *testing.T) {
	chance := newChance()
	for range 60 {
		mss := 1 + chance.Int63n(2000)
		starts := randomStarts(chance, mss, 100000, 1+chance.Intn(6))
		flows := make([]impl.Cong, len(starts))
		for i, start := range starts {
			flows[i] = window(mss, start, 2*mss, 0)
		}
		for k, row := range checkShare(t, mss, 1+chance.Int63n(300000), starts, 60) {
			for i := range flows {
				if row.Lost {
					flows[i], _ = impl.CongLoss(flows[i], flows[i].Cwnd)
				} else {
					flows[i], _ = impl.CongAck(flows[i], flows[i].Cwnd)
				}
				if row.Cwnds[i] != flows[i].Cwnd {
					t.Fatalf("round %d: %+v, not %+v", k, row, flows[i])
				}
			}
		}
	}
}

// P21: the distance of two windows never grows, and at least halves, upwards, in each lost round.
func TestShareBringsFlowsTogether(t *testing.T) {
	chance := newChance()
	losses := 0
	for range 150 {
		mss := 1 + chance.Int63n([]int64{3, 1500, mostMss}[chance.Intn(3)])
		room := 1 + chance.Int63n(300000)
		now := randomStarts(chance, mss, 300000, 2+chance.Intn(5))
		for _, row := range checkShare(t, mss, room, now, 100) {
			for i := range now {
				for k := range i {
					was, is := distance(now[i], now[k]), distance(row.Cwnds[i], row.Cwnds[k])
					if is > was || row.Lost && is > (was+1)/2 {
						t.Fatalf("a distance of %d is %d: %+v, %v", was, is, row, now)
					}
				}
			}
			losses += int(oneIf(row.Lost))
			now = row.Cwnds
		}
	}
	if losses < 1000 {
		t.Errorf("only %d rounds were lost", losses)
	}
}

func distance(a, b int64) int64 { return max(a-b, b-a) }

// P21: flows that begin far apart end side by side, and flows that begin alike stay so.
func TestShareEndsFair(t *testing.T) {
	rows := checkShare(t, 10, 3000, []int64{20, 2900, 777, 777}, 2000)
	for _, row := range rows {
		if row.Cwnds[2] != row.Cwnds[3] {
			t.Fatalf("flows that begin alike: %+v", row)
		}
	}
	last := rows[len(rows)-1].Cwnds
	if slices.Max(last)-slices.Min(last) > 1 {
		t.Errorf("at the end: %v", last)
	}
}

// P51: Share answers the same again, leaves its starts and the room behind them as they are, and no two of its lists
// share memory.
func TestShareSharesNothing(t *testing.T) {
	chance := newChance()
	for range 40 {
		room := append(randomStarts(chance, 100, 5000, 1+chance.Intn(9)), 7, 8, 9)
		starts := room[:len(room)-3]
		kept := slices.Clone(room)
		first := checkShare(t, 100, 9000, starts, 40)
		told := cloneRows(first)
		second := checkShare(t, 100, 9000, starts, 40)
		for i := range second {
			spoil(second[i].Cwnds, 99)
			second[i].Cwnds = told[i].Cwnds
			if !sameRows(second, told) {
				t.Fatalf("the windows of round %d are in another's memory", i)
			}
		}
		spoil(second, impl.ShareRow{})
		if !slices.Equal(room, kept) {
			t.Fatalf("%v has become %v", kept, room)
		}
		if clear(room); !sameRows(first, told) {
			t.Fatal("an answer is in the argument's memory")
		}
	}
}

// P51: calls at the same time on the same starts answer the same.
func TestShareAtTheSameTime(t *testing.T) {
	starts := randomStarts(newChance(), 100, 50000, 64)
	want := checkShare(t, 100, 900000, starts, 100)
	done := make(chan bool)
	for range 8 {
		go func() {
			rows, code := impl.Share(100, 900000, starts, 100)
			done <- code == impl.OK && sameRows(rows, want)
		}()
	}
	for range 8 {
		if !<-done {
			t.Error("another answer beside others")
		}
	}
}
