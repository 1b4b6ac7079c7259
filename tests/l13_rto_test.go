package tests

import (
	"testing"

	"loop.example/g00003/impl"
)

const (
	mostSrtt   = 8000000
	mostRttvar = 4000000
	mostSample = 1000000
)

func known(srtt, rttvar, rto int64) impl.Rto {
	return impl.Rto{Srtt: srtt, Rttvar: rttvar, Rto: rto, Known: true}
}

func waiting(rto int64) impl.Rto { return impl.Rto{Rto: rto} }

func modelValidRto(r impl.Rto) bool {
	return within(r.Srtt, mostSrtt) && within(r.Rttvar, mostRttvar) && r.Rto >= 200 && r.Rto <= 60000 &&
		(r.Known || r.Srtt == 0 && r.Rttvar == 0)
}

// modelSample takes seven eighths and three quarters, each upwards, instead of leaving an eighth or a quarter out.
func modelSample(r impl.Rto, ms int64) impl.Rto {
	next := impl.Rto{Srtt: 8 * ms, Rttvar: 2 * ms, Known: true}
	if r.Known {
		away := ms - r.Srtt/8
		if away < 0 {
			away = -away
		}
		next.Srtt = (7*r.Srtt+7)/8 + ms
		next.Rttvar = (3*r.Rttvar+3)/4 + away
	}
	next.Rto = next.Srtt / 8
	if next.Rttvar == 0 {
		next.Rto++
	}
	next.Rto += next.Rttvar
	if next.Rto < 200 {
		next.Rto = 200
	}
	if next.Rto > 60000 {
		next.Rto = 60000
	}
	return next
}

func modelBackoff(r impl.Rto) impl.Rto {
	if r.Rto > 30000 {
		r.Rto = 60000
	} else {
		r.Rto += r.Rto
	}
	return r
}

func checkSample(t *testing.T, r impl.Rto, ms int64, want impl.Rto) {
	t.Helper()
	if got, code := impl.RtoSample(r, ms); got != want || code != impl.OK {
		t.Errorf("RtoSample(%+v, %d): %+v, %d, not %+v", r, ms, got, code, want)
	}
}

func checkNoSample(t *testing.T, r impl.Rto, ms int64) {
	t.Helper()
	if got, code := impl.RtoSample(r, ms); got != (impl.Rto{}) || code != impl.ErrForm {
		t.Errorf("RtoSample(%+v, %d): %+v, %d, not ErrForm", r, ms, got, code)
	}
}

func checkBackoff(t *testing.T, r, want impl.Rto) {
	t.Helper()
	if got, code := impl.RtoBackoff(r); got != want || code != impl.OK {
		t.Errorf("RtoBackoff(%+v): %+v, %d, not %+v", r, got, code, want)
	}
}

func checkNoBackoff(t *testing.T, r impl.Rto) {
	t.Helper()
	if got, code := impl.RtoBackoff(r); got != (impl.Rto{}) || code != impl.ErrForm {
		t.Errorf("RtoBackoff(%+v): %+v, %d, not ErrForm", r, got, code)
	}
}

func TestRtoBegins(t *testing.T) {
	if got := impl.NewRto(); got != waiting(1000) {
		t.Errorf("NewRto: %+v", got)
	}
}

func TestRtoFirstSample(t *testing.T) {
	checkSample(t, impl.NewRto(), 0, known(0, 0, 200))
	checkSample(t, impl.NewRto(), 1, known(8, 2, 200))
	checkSample(t, impl.NewRto(), 66, known(528, 132, 200))
	checkSample(t, impl.NewRto(), 67, known(536, 134, 201))
	checkSample(t, impl.NewRto(), 100, known(800, 200, 300))
	checkSample(t, impl.NewRto(), 19999, known(159992, 39998, 59997))
	checkSample(t, impl.NewRto(), 20000, known(160000, 40000, 60000))
	checkSample(t, impl.NewRto(), 20001, known(160008, 40002, 60000))
	checkSample(t, impl.NewRto(), mostSample, known(mostSrtt, mostRttvar/2, 60000))
	// What was waited ahead of it counts for nothing.
	checkSample(t, waiting(200), 100, known(800, 200, 300))
	checkSample(t, waiting(60000), 100, known(800, 200, 300))
}

func TestRtoLaterSamples(t *testing.T) {
	checkSample(t, known(800, 200, 300), 140, known(840, 190, 295))
	checkSample(t, known(840, 190, 295), 5, known(740, 243, 335))
	checkSample(t, known(800, 200, 60000), 100, known(800, 150, 250))
	// Divisions leave out what is below 1.
	checkSample(t, known(8007, 403, 1403), 1000, known(8007, 303, 1303))
	checkSample(t, known(8007, 403, 1403), 1001, known(8008, 304, 1305))
	checkSample(t, known(8007, 403, 1403), 999, known(8006, 304, 1304))
	checkSample(t, known(7, 3, 200), 0, known(7, 3, 200))
	checkSample(t, known(8, 3, 200), 0, known(7, 4, 200))
	// Far from what is known, either way.
	checkSample(t, known(mostSrtt, mostRttvar, 60000), 0, known(7000000, 4000000, 60000))
	checkSample(t, known(mostSrtt, 0, 60000), 0, known(7000000, 1000000, 60000))
	checkSample(t, known(mostSrtt, mostRttvar, 60000), mostSample, known(8000000, 3000000, 60000))
	checkSample(t, known(0, 0, 200), mostSample, known(1000000, 1000000, 60000))
	checkSample(t, known(0, mostRttvar, 200), mostSample, known(1000000, 4000000, 60000))
	checkSample(t, known(7999999, 3999999, 200), mostSample, known(8000000, 3000001, 60000))
	// A known 0 is no beginning.
	checkSample(t, known(0, 0, 200), 100, known(100, 100, 200))
}

// An Rttvar of 0 is waited for as 1 is; its place is kept by 0 all the same.
func TestRtoWithoutVariance(t *testing.T) {
	checkSample(t, known(2400, 0, 1000), 300, known(2400, 0, 301))
	checkSample(t, known(2400, 1, 1000), 300, known(2400, 1, 301))
	checkSample(t, known(2400, 2, 1000), 300, known(2400, 2, 302))
	checkSample(t, known(2400, 3, 1000), 300, known(2400, 3, 303))
	checkSample(t, known(2400, 4, 1000), 300, known(2400, 3, 303))
	checkSample(t, known(1592, 0, 1000), 199, known(1592, 0, 200))
	checkSample(t, known(1600, 0, 1000), 200, known(1600, 0, 201))
	checkSample(t, known(479992, 0, 1000), 59999, known(479992, 0, 60000))
	checkSample(t, known(479984, 0, 1000), 59998, known(479984, 0, 59999))
	checkSample(t, known(480000, 0, 1000), 60000, known(480000, 0, 60000))
	checkSample(t, impl.NewRto(), 0, known(0, 0, 200))
}

func TestRtoBackoff(t *testing.T) {
	for from, to := range map[int64]int64{
		200: 400, 201: 402, 1000: 2000, 29999: 59998, 30000: 60000, 30001: 60000, 59999: 60000, 60000: 60000,
	} {
		checkBackoff(t, waiting(from), waiting(to))
		checkBackoff(t, known(5, 6, from), known(5, 6, to))
		checkBackoff(t, known(0, 0, from), known(0, 0, to))
		checkBackoff(t, known(mostSrtt, mostRttvar, from), known(mostSrtt, mostRttvar, to))
	}
	r := impl.NewRto()
	for _, want := range []int64{2000, 4000, 8000, 16000, 32000, 60000, 60000} {
		checkBackoff(t, r, waiting(want))
		r = waiting(want)
	}
}

func TestRtoThatIsNotValid(t *testing.T) {
	ill := []impl.Rto{
		known(-1, 0, 200), known(mostSrtt+1, 0, 200), known(0, -1, 200), known(0, mostRttvar+1, 200),
		known(0, 0, 199), known(0, 0, 60001), known(0, 0, 0), known(0, 0, -200),
		waiting(199), waiting(60001), waiting(0), {},
		{Srtt: 1, Rto: 200}, {Rttvar: 1, Rto: 200}, {Srtt: -1, Rto: 200}, {Rttvar: -1, Rto: 200},
		{Srtt: 1, Rttvar: -1, Rto: 200}, {Srtt: 800, Rttvar: 200, Rto: 300},
	}
	for _, r := range ill {
		for _, ms := range []int64{-1, 0, 100, mostSample, mostSample + 1} {
			checkNoSample(t, r, ms)
		}
		checkNoBackoff(t, r)
	}
	for _, r := range []impl.Rto{impl.NewRto(), known(800, 200, 300), known(mostSrtt, mostRttvar, 60000), known(0, 0, 200)} {
		for _, ms := range append(edgeNumbers(), -1, mostSample+1) {
			if !within(ms, mostSample) {
				checkNoSample(t, r, ms)
			}
		}
	}
}

// One field at a time goes through all its ends, and all fields together through the nearest ones.
func TestRtoEnds(t *testing.T) {
	for _, is := range []bool{false, true} {
		for _, n := range aboutEnds(0, 200, 60000, mostRttvar, mostSrtt, mostSample) {
			checkRto(t, impl.Rto{Srtt: n, Rto: 200, Known: is}, 7)
			checkRto(t, impl.Rto{Rttvar: n, Rto: 200, Known: is}, 7)
			checkRto(t, impl.Rto{Rto: n, Known: is}, 7)
			checkRto(t, impl.Rto{Rto: 200, Known: is}, n)
		}
		for _, srtt := range []int64{-1, 0, 1, 7, 8, 1599, 1600, mostSrtt - 1, mostSrtt, mostSrtt + 1} {
			for _, rttvar := range []int64{-1, 0, 1, 3, 4, 5, mostRttvar - 1, mostRttvar, mostRttvar + 1} {
				for _, rto := range []int64{199, 200, 30000, 30001, 60000, 60001} {
					for _, ms := range []int64{-1, 0, 1, 199, 200, 59999, mostSample - 1, mostSample, mostSample + 1} {
						checkRto(t, impl.Rto{Srtt: srtt, Rttvar: rttvar, Rto: rto, Known: is}, ms)
					}
				}
			}
		}
	}
}

// checkRto asks both functions for what the model says. P51: each of them twice.
func checkRto(t *testing.T, r impl.Rto, ms int64) {
	t.Helper()
	for range 2 {
		switch {
		case !modelValidRto(r):
			checkNoSample(t, r, ms)
			checkNoBackoff(t, r)
			continue
		case within(ms, mostSample):
			checkSample(t, r, ms, modelSample(r, ms))
		default:
			checkNoSample(t, r, ms)
		}
		checkBackoff(t, r, modelBackoff(r))
	}
}

// What is answered is valid, so that the next call takes it.
func TestRtoStaysValid(t *testing.T) {
	chance := newChance()
	for range 500 {
		r := impl.NewRto()
		most := 1 + chance.Int63n(mostSample)
		for range 100 {
			ms := chance.Int63n(most + 1)
			if chance.Intn(5) == 0 {
				ms = []int64{0, 1, most, mostSample}[chance.Intn(4)]
			}
			checkRto(t, r, ms)
			if chance.Intn(4) == 0 {
				r, _ = impl.RtoBackoff(r)
			} else {
				r, _ = impl.RtoSample(r, ms)
			}
			if !modelValidRto(r) {
				t.Fatalf("%+v is answered", r)
			}
		}
	}
}

// P19: behind 200 equal samples Srtt is eight times that, and Rto 1 to 3 more, within its bounds. That is so for all of
// them, and whatever was waited ahead of the first one.
func TestRtoSettles(t *testing.T) {
	for ms := range int64(60001) {
		r := waiting(200 + ms*59800/60000)
		for range 200 {
			r, _ = impl.RtoSample(r, ms)
		}
		least, most := max(min(ms+1, 60000), 200), max(min(ms+3, 60000), 200)
		if r.Srtt != 8*ms || r.Rto < least || r.Rto > most || !r.Known {
			t.Fatalf("200 samples of %d: %+v", ms, r)
		}
	}
}

// P19: just how much more hangs on what is left of Rttvar, which quarters do not bring below 3.
func TestRtoSettlesAtThree(t *testing.T) {
	for ms, more := range map[int64]int64{300: 3, 20000: 3, 59997: 3, 59998: 2, 59999: 1, 60000: 0} {
		r := impl.NewRto()
		for range 200 {
			r, _ = impl.RtoSample(r, ms)
		}
		if r != known(8*ms, 3, ms+more) {
			t.Errorf("200 samples of %d: %+v", ms, r)
		}
	}
}
