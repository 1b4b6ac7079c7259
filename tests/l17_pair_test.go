package tests

import (
	"bytes"
	"fmt"
	"math"
	"math/rand"
	"runtime"
	"slices"
	"strings"
	"testing"
	"time"

	"loop.example/g00003/impl"
)

// pairOf joins two ends by their ports.
func pairOf(a, b impl.TcpConfig, delay int64) impl.PairConfig {
	b.LocalPort, b.RemotePort = a.RemotePort, a.LocalPort
	return impl.PairConfig{A: a, B: b, Delay: delay}
}

// plainPair is what most scripts run with; B's sequence numbers pass the seam.
func plainPair() impl.PairConfig {
	b := plainEnd()
	b.Iss = allSeqs - 1
	return pairOf(plainEnd(), b, 10)
}

func runningPair(c impl.PairConfig, fates []impl.Fate) func([]impl.PairOp) ([]impl.PairOut, int64) {
	return func(ops []impl.PairOp) ([]impl.PairOut, int64) { return impl.RunPair(c, fates, ops) }
}

func sideOp(side, kind int64) impl.PairOp {
	return impl.PairOp{Side: side, Op: impl.TcpOp{Kind: kind, N: 1 << 20}}
}

func sideWrite(side int64, data []byte) impl.PairOp {
	return impl.PairOp{Side: side, Op: impl.TcpOp{Kind: impl.TcpDoWrite, Data: data}}
}

func sideRead(side, n int64) impl.PairOp {
	return impl.PairOp{Side: side, Op: impl.TcpOp{Kind: impl.TcpDoRead, N: n}}
}

func waitingFor(ms int64) impl.PairOp { return impl.PairOp{Side: impl.SideWait, Wait: ms} }

// pairScript is a script that is written while a model does it.
type pairScript struct {
	chance *rand.Rand
	m      *modelPair
	ops    []impl.PairOp
	want   []impl.PairOut
}

func newPairScript(chance *rand.Rand, c impl.PairConfig, fates []impl.Fate) *pairScript {
	return &pairScript{chance: chance, m: newModelPair(c, fates)}
}

func (s *pairScript) add(op impl.PairOp) impl.PairOut {
	s.ops = append(s.ops, op)
	out := s.m.do(op)
	s.want = append(s.want, out)
	return out
}

func (s *pairScript) check(t *testing.T) {
	t.Helper()
	for i, out := range runAll(t, runningPair(s.m.c, s.m.fates), s.ops) {
		if !samePairOut(out, s.want[i]) {
			t.Fatalf("%+v, operation %d, %s: %s, not %s", s.m.c, i, shortly(s.ops[i]), shortly(out), shortly(s.want[i]))
		}
	}
}

func randomPairConfig(chance *rand.Rand) impl.PairConfig {
	return pairOf(randomTcpConfig(chance), randomTcpConfig(chance), pick(chance, 1, 10, 10, 50, 200, 1+chance.Int63n(500), 10000))
}

// randomFates spoils the wire by so many of a hundred in each way.
func randomFates(chance *rand.Rand, n int) []impl.Fate {
	ill := pick(chance, 0, 5, 20, 50)
	fates := make([]impl.Fate, n)
	for i := range fates {
		f := &fates[i]
		f.Delay = pick(chance, 1, 10, 10, 10, 20, 1+chance.Int63n(300), 1+chance.Int63n(300))
		if often(chance, ill) {
			f.Copies = 1 + chance.Int63n(3)
		}
		f.Lose = often(chance, ill/2)
		if often(chance, ill/3) {
			f.Spoil = pick(chance, 1, 160, 161, 320, 321, 1+chance.Int63n(2000), math.MaxInt64)
		}
		if often(chance, ill/10) {
			f.Delay = pick[int64](chance, 1000, 5000, 100000)
		}
	}
	return fates
}

func (s *pairScript) randomWait() int64 {
	when, _, _ := s.m.next()
	next := when - s.m.now
	if next < 0 || next > 100000 {
		next = 1
	}
	return pick(s.chance, 0, 1, next, next, next, next-1, next+1, 10, 20, 40, 100, 200, 1000, s.chance.Int63n(300), s.chance.Int63n(3000), 20000, 60000)
}

func (s *pairScript) randomOp() impl.PairOp {
	side := s.chance.Int63n(2)
	m := s.m.ends[side]
	if m.fresh && often(s.chance, 70) {
		return sideOp(side, pick[int64](s.chance, impl.TcpDoConnect, impl.TcpDoListen, impl.TcpDoListen-side))
	}
	switch n := s.chance.Intn(1000); {
	case n < 400:
		return waitingFor(s.randomWait())
	case n < 620:
		size := pick(s.chance, 0, 1, 10, 20, 64, 128, 300, 1000, s.chance.Intn(700))
		return sideWrite(side, randomBytes(s.chance, size))
	case n < 860:
		return sideRead(side, pick[int64](s.chance, 1, 2, 10, 100, 1<<40, s.chance.Int63n(300)))
	case n < 890:
		return sideOp(side, impl.TcpDoShut)
	case n < 896:
		return sideOp(side, impl.TcpDoAbort)
	case n < 920:
		return impl.PairOp{Side: side, Op: impl.TcpOp{Kind: impl.TcpDoTooBig, N: pick(s.chance, 67, 68, 104, 105, 140, m.size+39, 65535, 68+s.chance.Int63n(200))}}
	case n < 960:
		return sideOp(side, pick[int64](s.chance, impl.TcpDoConnect, impl.TcpDoListen))
	case n < 980:
		return impl.PairOp{Side: side, Wait: 5, Op: impl.TcpOp{Kind: pick[int64](s.chance, -1, 0, impl.TcpDoSegment, impl.TcpDoPass, 10, 1<<40), N: 1}}
	case n < 990:
		return waitingFor(pick[int64](s.chance, -1, lastTime+1, lastTime-s.m.now+1, math.MinInt64, math.MaxInt64))
	}
	return impl.PairOp{Side: pick[int64](s.chance, -1, 3, 1<<32, math.MinInt64), Wait: 10, Op: impl.TcpOp{Kind: impl.TcpDoConnect}}
}

// pairText is a script with what it must tell, line for line: "A write 5 => A=4 B=4 sent=4 come=3 took=5". What is
// written has the bytes that belong to its places in the writer's stream, and so must have what is read.
type pairText struct {
	m     *modelPair
	sides [2]tcpText
	ops   []impl.PairOp
}

func newPairText(c impl.PairConfig, fates []impl.Fate) *pairText {
	return &pairText{m: newModelPair(c, fates), sides: [2]tcpText{
		{c: c.A, written: c.A.Iss + 1, read: c.B.Iss + 1}, {c: c.B, written: c.B.Iss + 1, read: c.A.Iss + 1},
	}}
}

// operation is "A connect", "B write 5", "A kind 7", "wait 10", "side 3" and so on.
func (s *pairText) operation(t *testing.T, text string) impl.PairOp {
	t.Helper()
	name, rest, _ := strings.Cut(text, " ")
	kind, number, _ := strings.Cut(rest, " ")
	switch {
	case name == "wait":
		return waitingFor(numberIn(rest))
	case name == "side":
		return impl.PairOp{Side: numberIn(rest), Wait: 10, Op: impl.TcpOp{Kind: impl.TcpDoConnect}}
	case name != "A" && name != "B":
		t.Fatalf("no operation: %q", text)
	}
	side := oneIf(name == "B")
	if kind == "kind" {
		return impl.PairOp{Side: side, Wait: 10, Op: impl.TcpOp{Kind: numberIn(number), N: 100, Wait: 10}}
	}
	return impl.PairOp{Side: side, Op: s.sides[side].operation(t, rest)}
}

// check asks for all that is named; code, took and data count as 0 where they are not.
func (s *pairText) check(t *testing.T, line string, op impl.PairOp, out impl.PairOut, told string) {
	t.Helper()
	if op.Side == impl.SideA || op.Side == impl.SideB {
		side := &s.sides[op.Side]
		if string(out.Data) != string(streamBytes(side.read, len(out.Data))) {
			t.Errorf("%s: other bytes are read: %x", line, out.Data)
		}
		side.written += out.Took
		side.read += int64(len(out.Data))
	}
	has := map[string]int64{
		"code": out.Code, "took": out.Took, "data": int64(len(out.Data)), "A": out.StateA, "B": out.StateB,
		"sent": out.Sent, "come": out.Come, "bad": out.Bad,
	}
	want := map[string]int64{"code": 0, "took": 0, "data": 0}
	for _, word := range strings.Fields(told) {
		name, number, _ := strings.Cut(word, "=")
		want[name] = numberIn(number)
	}
	for name, n := range want {
		if got, known := has[name]; !known || got != n {
			t.Errorf("%s: %s is %d, not %d", line, name, got, n)
		}
	}
}

// checkPair runs a script; a line of it may have several operations, of which only the last one's telling is asked. A
// line without "=>" asks nothing but that it is OK.
func checkPair(t *testing.T, c impl.PairConfig, fates []impl.Fate, lines ...string) {
	t.Helper()
	s := newPairText(c, fates)
	for _, line := range lines {
		operations, told, asked := strings.Cut(line, " =>")
		list := strings.Split(operations, ", ")
		for i, text := range list {
			op := s.operation(t, text)
			s.ops = append(s.ops, op)
			outs := runAll(t, runningPair(c, fates), s.ops)
			out := outs[len(outs)-1]
			if want := s.m.do(op); !samePairOut(out, want) {
				t.Errorf("%s: %s, not %s", line, shortly(out), shortly(want))
			}
			if i == len(list)-1 && asked {
				s.check(t, line, op, out, told)
			} else {
				s.check(t, line, op, out, fmt.Sprintf("took=%d data=%d", out.Took, len(out.Data)))
			}
		}
	}
}

// pairOpens lets A connect and both be open at 30 milliseconds, with three segments.
func pairOpens() []string {
	return []string{"B listen, A connect, wait 30 => A=4 B=4 sent=3 come=3 bad=0"}
}

// opened are the fates of the three segments of pairOpens, and more.
func opened(more ...impl.Fate) []impl.Fate {
	return append([]impl.Fate{{Delay: 10}, {Delay: 10}, {Delay: 10}}, more...)
}

func TestPairAsModel(t *testing.T) {
	chance := newChance()
	together, turned := 0, 0
	codes := map[int64]int{}
	for range 3000 {
		s := newPairScript(chance, randomPairConfig(chance), randomFates(chance, pick(chance, 0, 3, 20, 200)))
		for range 20 + chance.Intn(150) {
			s.add(s.randomOp())
		}
		s.check(t)
		together += s.m.together
		turned += s.m.turned
		for code, n := range s.m.codes {
			codes[code] += n
		}
	}
	if together < 1000 || turned < 1000 {
		t.Errorf("only %d at the time of another, %d spoilt", together, turned)
	}
	for _, code := range []int64{impl.ErrForm, impl.ErrState, impl.ErrReset, impl.ErrRefused, impl.ErrClosed, impl.ErrFull, impl.ErrWait} {
		if codes[code] < 1000 {
			t.Errorf("only %d answers of the code %d", codes[code], code)
		}
	}
}

func TestPairNumbers(t *testing.T) {
	got := []int64{impl.PairA, impl.PairB, impl.SideA, impl.SideB, impl.SideWait, impl.MaxFates, impl.MaxSteps}
	if !slices.Equal(got, []int64{167772161, 167772162, 0, 1, 2, 4000, 20000}) {
		t.Error(got)
	}
}

func checkRunPairCode(t *testing.T, what string, c impl.PairConfig, fates []impl.Fate, ops int, want int64) {
	t.Helper()
	outs, code := impl.RunPair(c, fates, make([]impl.PairOp, ops))
	if code != want || code != impl.OK && len(outs) != 0 || code == impl.OK && len(outs) != ops {
		t.Errorf("%s, %d fates, %d operations: %d answers, %d, not %d", what, len(fates), ops, len(outs), code, want)
	}
}

// fatesWith are plain ones, with another one at a place.
func fatesWith(n, place int, f impl.Fate) []impl.Fate {
	fates := slices.Repeat([]impl.Fate{{Delay: 10}}, n)
	fates[place] = f
	return fates
}

func TestPairAsksItsEnds(t *testing.T) {
	for _, number := range tcpNumbers() {
		for _, n := range aboutEnds(number.least, number.most, 0) {
			valid := n >= number.least && n <= number.most || number.name == "Keep" && n == 0
			for side := range 2 {
				c := plainPair()
				end, other := &c.A, &c.B
				if side == 1 {
					end, other = other, end
				}
				number.set(end, n)
				other.LocalPort, other.RemotePort = end.RemotePort, end.LocalPort
				what := fmt.Sprintf("side %d, %s %d", side, number.name, n)
				checkRunPairCode(t, what, c, nil, 1, codeFor(valid))
				checkRunPairCode(t, what, c, nil, impl.MaxOps+1, max(codeFor(valid), impl.ErrCount*oneIf(valid)))
			}
		}
	}
	checkRunPairCode(t, "nothing", impl.PairConfig{}, nil, 0, impl.ErrForm)
	checkRunPairCode(t, "no A", impl.PairConfig{B: plainPair().B, Delay: 10}, nil, 0, impl.ErrForm)
	checkRunPairCode(t, "no B", impl.PairConfig{A: plainPair().A, Delay: 10}, nil, 0, impl.ErrForm)
}

func TestPairAsksItsPorts(t *testing.T) {
	for _, n := range []int64{0, 79, 80, 81, 999, 1000, 1001, 65535} {
		c := plainPair()
		c.A.LocalPort = n
		checkRunPairCode(t, fmt.Sprintf("A's own port %d", n), c, nil, 1, codeFor(n == 1000))
		c = plainPair()
		c.A.RemotePort = n
		checkRunPairCode(t, fmt.Sprintf("A's other port %d", n), c, nil, 1, codeFor(n == 80))
		c = plainPair()
		c.B.LocalPort = n
		checkRunPairCode(t, fmt.Sprintf("B's own port %d", n), c, nil, 1, codeFor(n == 80))
		c = plainPair()
		c.B.RemotePort = n
		checkRunPairCode(t, fmt.Sprintf("B's other port %d", n), c, nil, 1, codeFor(n == 1000))
	}
	c := plainPair()
	c.B.LocalPort, c.B.RemotePort = 1000, 80
	checkRunPairCode(t, "the same ports, not the other way round", c, nil, 1, impl.ErrForm)
	c = plainPair()
	c.A.LocalPort, c.B.RemotePort = 80, 80
	checkRunPairCode(t, "one port everywhere", c, nil, 1, impl.OK)
}

func TestPairAsksItsDelay(t *testing.T) {
	for _, n := range aboutEnds(0, 1, 10000) {
		c := plainPair()
		c.Delay = n
		valid := n >= 1 && n <= 10000
		checkRunPairCode(t, fmt.Sprintf("a delay of %d", n), c, nil, 1, codeFor(valid))
		checkRunPairCode(t, fmt.Sprintf("a delay of %d", n), c, fatesWith(1, 0, impl.Fate{Delay: 10}), 1, codeFor(valid))
	}
}

func TestPairAsksItsFates(t *testing.T) {
	checkFate := func(f impl.Fate, valid bool) {
		for _, lose := range []bool{false, true} {
			f.Lose = lose
			for place, n := range []int{1, 2, 3, impl.MaxFates} {
				what := fmt.Sprintf("a fate of %+v", f)
				checkRunPairCode(t, what, plainPair(), fatesWith(n, min(place, n-1), f), 1, codeFor(valid))
			}
			checkRunPairCode(t, "the last of all fates", plainPair(), fatesWith(impl.MaxFates, impl.MaxFates-1, f), 1, codeFor(valid))
			checkRunPairCode(t, "one fate too many", plainPair(), fatesWith(impl.MaxFates+1, impl.MaxFates, f), 1, max(codeFor(valid), impl.ErrCount*oneIf(valid)))
		}
	}
	for _, n := range aboutEnds(0, 3) {
		checkFate(impl.Fate{Delay: 1, Copies: n}, n >= 0 && n <= 3)
	}
	for _, n := range aboutEnds(1, 100000) {
		checkFate(impl.Fate{Delay: n}, n >= 1 && n <= 100000)
	}
	for _, n := range aboutEnds(0, 1, 320, 321) {
		checkFate(impl.Fate{Delay: 1, Spoil: n}, n >= 0)
	}
	checkFate(impl.Fate{}, false)
	checkFate(impl.Fate{Delay: 100000, Copies: 3, Spoil: math.MaxInt64}, true)
}

// Of several errors an ill configuration, and an ill fate, wherever it is, are told ahead of numbers that are too great.
func TestPairAsksItsCounts(t *testing.T) {
	plain := fatesWith(impl.MaxFates+1, 0, impl.Fate{Delay: 1})
	ill := fatesWith(impl.MaxFates+1, impl.MaxFates, impl.Fate{Delay: 1, Copies: 4})
	illPair := plainPair()
	illPair.B.Mss = 63
	for _, n := range []int{0, 1, impl.MaxOps - 1, impl.MaxOps} {
		checkRunPairCode(t, "a plain pair", plainPair(), nil, n, impl.OK)
		checkRunPairCode(t, "a plain pair", plainPair(), plain[1:], n, impl.OK)
		checkRunPairCode(t, "a plain pair", plainPair(), plain, n, impl.ErrCount)
		checkRunPairCode(t, "a plain pair", plainPair(), ill, n, impl.ErrForm)
		checkRunPairCode(t, "an ill end", illPair, plain, n, impl.ErrForm)
	}
	for _, fates := range [][]impl.Fate{nil, plain[1:], plain} {
		checkRunPairCode(t, "a plain pair", plainPair(), fates, impl.MaxOps+1, impl.ErrCount)
		checkRunPairCode(t, "an ill end", illPair, fates, impl.MaxOps+1, impl.ErrForm)
	}
	checkRunPairCode(t, "a plain pair", plainPair(), ill, impl.MaxOps+1, impl.ErrForm)
	checkRunPairCode(t, "a plain pair", plainPair(), ill[impl.MaxFates:], impl.MaxOps+1, impl.ErrForm)
}

func TestPairWaitsForWhatComes(t *testing.T) {
	checkPair(t, plainPair(), nil,
		"A read 1 => code=13 A=0 B=0 sent=0 come=0 bad=0",
		"B listen => A=0 B=1 sent=0 come=0 bad=0",
		"A connect => A=2 B=1 sent=1 come=0 bad=0",
		"wait 9 => A=2 B=1 sent=1 come=0 bad=0",
		"wait 0 => A=2 B=1 sent=1 come=0 bad=0",
		"wait -1 => code=1 A=2 B=1 sent=1 come=0 bad=0",
		"wait 1 => A=2 B=3 sent=2 come=1 bad=0",
		"wait 0 => A=2 B=3 sent=2 come=1 bad=0",
		"wait 11 => A=4 B=3 sent=3 come=2 bad=0",
		"wait 8 => A=4 B=3 sent=3 come=2 bad=0",
		"wait 1 => A=4 B=4 sent=3 come=3 bad=0",
		"wait 100000 => A=4 B=4 sent=3 come=3 bad=0",
	)
	checkPair(t, plainPair(), nil, "B listen, A connect, wait 30 => A=4 B=4 sent=3 come=3 bad=0")
	checkPair(t, plainPair(), nil, "B listen, A connect, wait 29 => A=4 B=3 sent=3 come=2 bad=0")
}

func TestPairWaitsForTimers(t *testing.T) {
	lost := []impl.Fate{{Lose: true, Delay: 1}}
	checkPair(t, plainPair(), lost, "A connect, wait 999 => A=2 sent=1", "wait 1 => A=2 sent=2 come=0")
	checkPair(t, plainPair(), lost, "A connect, wait 1001 => A=2 sent=2 come=0")
	checkPair(t, plainPair(), lost, "B connect, wait 999 => B=2 sent=1", "wait 1 => B=2 sent=2 come=0")
	// What a timer sends comes within the same wait, and what that sends.
	checkPair(t, plainPair(), lost, "B listen, A connect, wait 1030 => A=4 B=4 sent=4 come=3")
	checkPair(t, plainPair(), lost, "B listen, A connect, wait 1029 => A=4 B=3 sent=4 come=2")
	checkPair(t, plainPair(), lost, "A listen, B connect, wait 1030 => A=4 B=4 sent=4 come=3")
}

func TestPairWaitsToTheEnd(t *testing.T) {
	checkPair(t, plainPair(), nil,
		"wait 1000000001 => code=1", "wait 999999999 =>", "wait 2 => code=1", "wait 1000000000 => code=1",
		"wait 9223372036854775807 => code=1", "wait -9223372036854775808 => code=1", "wait 1 =>", "wait 1 => code=1", "wait 0 =>",
		"A connect => A=2 sent=1", "wait 0 => A=2 come=0", "wait 1 => code=1 A=2 come=0",
	)
	checkPair(t, plainPair(), nil, "wait 1000000000 =>", "wait 0 =>", "wait 1 => code=1")
	checkPair(t, plainPair(), nil, "wait 999999990, A connect, wait 10 => sent=2 come=1")
	checkPair(t, plainPair(), nil, "wait 999999991, A connect, wait 9 => sent=1 come=0", "wait 1 => code=1")
	lost := []impl.Fate{{Lose: true, Delay: 1}}
	checkPair(t, plainPair(), lost, "wait 999999000, A connect, wait 1000 => sent=2")
	checkPair(t, plainPair(), lost, "wait 999999001, A connect, wait 999 => sent=1", "wait 1 => code=1")
}

// The fate with a segment's number is its own, whichever end sent it; behind the last fate the delay is the
// configured one.
func TestPairFatesByNumber(t *testing.T) {
	checkPair(t, plainPair(), []impl.Fate{{Delay: 3}, {Delay: 4}},
		"B listen, A connect, wait 2 => sent=1 come=0", "wait 1 => B=3 sent=2 come=1",
		"wait 3 => sent=2 come=1", "wait 1 => A=4 sent=3 come=2",
		"wait 9 => B=3 sent=3 come=2", "wait 1 => B=4 sent=3 come=3",
	)
	checkPair(t, plainPair(), []impl.Fate{{Delay: 10}, {Lose: true, Delay: 10}},
		"B listen, A connect, wait 999 => A=2 B=3 sent=2 come=1", "wait 1 => sent=3 come=1",
	)
	checkPair(t, plainPair(), []impl.Fate{{Delay: 10}, {Delay: 10}, {Lose: true, Copies: 3, Spoil: 1, Delay: 10}},
		"B listen, A connect, wait 1009 => A=4 B=3 sent=3 come=2 bad=0", "wait 1 => A=4 B=3 sent=4 come=2", "wait 10 => sent=5 come=3",
		"wait 10 => A=4 B=4 sent=5 come=4 bad=0",
	)
	checkPair(t, plainPair(), []impl.Fate{{Delay: 100000}},
		"B listen, A connect, wait 999 => sent=1 come=0", "wait 31 => A=4 B=4 sent=4 come=3", "wait 98969 => sent=4 come=3",
		"wait 1 => A=4 B=4 sent=5 come=4", "wait 10 => A=4 B=4 sent=5 come=5",
	)
}

func TestPairSentLaterComesEarlier(t *testing.T) {
	checkPair(t, plainPair(), opened(impl.Fate{Delay: 30}, impl.Fate{Delay: 20}, impl.Fate{Delay: 10}), append(pairOpens(),
		"A write 300 => took=300 sent=6 come=3",
		"wait 9 => sent=6 come=3", "wait 1 => sent=7 come=4", "B read 1000 => code=21",
		"wait 10 => sent=8 come=6", "B read 1000 => code=21",
		"wait 9 => come=6", "wait 1 => sent=9 come=8", "B read 1000 => data=300",
	)...)
}

func TestPairCopies(t *testing.T) {
	checkPair(t, plainPair(), []impl.Fate{{Delay: 7, Copies: 3}},
		"B listen, A connect, wait 6 => come=0", "wait 1 => A=2 B=3 sent=2 come=1", "wait 6 => come=1", "wait 1 => B=3 sent=3 come=2",
		"wait 3 => A=4 sent=4 come=3", "wait 4 => sent=5 come=4", "wait 7 => B=4 sent=6 come=7", "wait 60 => sent=6 come=9 bad=0",
	)
	checkPair(t, plainPair(), []impl.Fate{{Delay: 1, Copies: 1}}, "A connect, wait 1 => sent=2 come=1", "wait 1 => sent=3 come=2", "wait 500 => come=4")
	checkPair(t, plainPair(), []impl.Fate{{Delay: 100000, Copies: 3, Lose: true}}, "A connect, wait 1020 => A=0 B=0 sent=3 come=2", "wait 400000 => sent=3 come=2")
	checkPair(t, plainPair(), []impl.Fate{{Delay: 100000, Copies: 3}, {Delay: 1}, {Delay: 1}, {Delay: 1}},
		"B listen, A connect, wait 1000 => sent=2", "wait 3 => A=4 B=4 sent=4 come=3", "wait 98996 => sent=4 come=3", "wait 1 => come=4",
		"wait 100000 => come=6", "wait 100000 => come=8", "wait 99999 => come=9", "wait 1 => come=10", "wait 900000 => come=11 sent=8",
	)
}

// Of one time comes first what was sent first, though it is a copy.
func TestPairComesInTheOrderOfSending(t *testing.T) {
	checkPair(t, plainPair(), opened(impl.Fate{Delay: 10, Copies: 1}, impl.Fate{Delay: 10}), append(pairOpens(),
		"A write 100 => took=100 sent=4", "wait 10 => sent=4 come=4",
		"A write 100 => took=100 sent=5", "wait 10 => sent=6 come=6",
		"wait 39 => sent=6 come=7", "wait 1 => sent=7 come=7",
	)...)
	checkPair(t, plainPair(), opened(impl.Fate{Delay: 20}, impl.Fate{Delay: 10}), append(pairOpens(),
		"A write 100, wait 10, A abort => A=0 sent=5 come=3", "wait 10 => A=0 B=0 sent=5 come=5",
		"B read 1000 => data=100", "B read 1000 => code=14", "B write 1 => code=14",
	)...)
	// Here the reset comes ahead of the bytes.
	checkPair(t, plainPair(), opened(impl.Fate{Delay: 21}, impl.Fate{Delay: 10}), append(pairOpens(),
		"A write 100, wait 10, A abort, wait 10 => A=0 B=4 sent=6 come=4", "wait 1 => B=4 come=5", "B read 1000 => data=100",
	)...)
}

func TestPairFromBothEndsAtOnce(t *testing.T) {
	checkPair(t, plainPair(), nil, "A connect, B connect => A=2 B=2 sent=2", "wait 10 => A=3 B=3 sent=4 come=2", "wait 10 => A=4 B=4 sent=4 come=4")
	checkPair(t, plainPair(), nil, append(pairOpens(),
		"A write 100, B write 200 => took=200 sent=6", "wait 10 => sent=7 come=6", "A read 1000 => data=200", "B read 1000 => data=100",
	)...)
	// A's bytes come first, and are acknowledged at once with what B has to say.
	checkPair(t, plainPair(), nil, append(pairOpens(), "A shut, B shut => A=5 B=5 sent=5", "wait 10 => A=8 B=8 sent=7 come=5",
		"wait 10 => A=10 B=10 sent=7 come=7", "wait 59999 => A=10 B=10", "wait 1 => A=0 B=0 sent=7 come=7")...)
}

// What comes at the time of a timer comes ahead of its going off, to either end.
func TestPairComesAheadOfTimers(t *testing.T) {
	for _, ends := range [][2]string{{"A", "B"}, {"B", "A"}} {
		first, other := ends[0], ends[1]
		opens := fmt.Sprintf("%s listen, %s connect, wait 1000 => %s=", other, first, first)
		checkPair(t, plainPair(), []impl.Fate{{Delay: 500}, {Delay: 500}}, opens+"4 sent=3 come=2", "wait 10 => A=4 B=4 sent=3 come=3")
		checkPair(t, plainPair(), []impl.Fate{{Delay: 500}, {Delay: 501}}, opens+"2 sent=3 come=1", "wait 1 => "+first+"=4 sent=4 come=2")
	}
}

// Of timers of one time A's goes off first, whichever end began first: its segment has the lesser number.
func TestPairTimersOfOneTime(t *testing.T) {
	lost, comes := impl.Fate{Lose: true, Delay: 10}, impl.Fate{Delay: 10}
	for _, both := range []string{"A connect, B connect, wait 999 => A=2 B=2 sent=2", "B connect, A connect, wait 999 => A=2 B=2 sent=2"} {
		checkPair(t, plainPair(), []impl.Fate{lost, lost, lost, comes}, both, "wait 11 => A=3 B=2 sent=5 come=1")
		checkPair(t, plainPair(), []impl.Fate{lost, lost, comes, lost}, both, "wait 11 => A=2 B=3 sent=5 come=1")
		checkPair(t, plainPair(), []impl.Fate{lost, lost, comes, comes}, both, "wait 11 => A=3 B=3 sent=6 come=2")
	}
}

func TestPairComesToWhoeverIsThere(t *testing.T) {
	fresh := []string{"A connect, wait 10 => A=2 B=0 sent=2 come=1", "wait 10 => A=0 B=0 sent=2 come=2", "A read 1 => code=16"}
	checkPair(t, plainPair(), nil, append(fresh, "B listen => A=0 B=1", "A connect => code=13", "wait 100000 => B=1 sent=2")...)
	checkPair(t, plainPair(), nil, "B listen, B shut => B=0", "A connect, wait 20 => A=0 B=0 sent=2 come=2", "A write 1 => code=16", "B read 1 => code=17")
	checkPair(t, plainPair(), nil, "A connect, wait 9, B listen, wait 1 => A=2 B=3 sent=2 come=1", "wait 20 => A=4 B=4")
	checkPair(t, plainPair(), nil, append(pairOpens(), "B abort => A=4 B=0 sent=4", "A write 100 => took=100 sent=5",
		"wait 10 => A=0 B=0 sent=6 come=5", "wait 10 => A=0 B=0 sent=6 come=6", "A read 1 => code=14", "B read 1 => code=17")...)
	checkPair(t, plainPair(), nil, append(pairOpens(), "A abort => A=0 B=4 sent=4", "wait 9 => B=4", "wait 1 => B=0 sent=4 come=4")...)
	// A copy finds an end listening that was fresh when the first one came; its refusal is too late.
	late := pairOf(plainEnd(), endWith(func(c *impl.TcpConfig) { c.Iss = 500 }), 10)
	checkPair(t, late, []impl.Fate{{Delay: 10, Copies: 1}, {Delay: 30}},
		"A connect, wait 10, B listen => A=2 B=1 sent=2 come=1", "wait 10 => A=2 B=3 sent=3 come=2", "wait 10 => A=4 B=3 sent=4 come=3",
		"wait 10 => A=4 B=4 sent=4 come=5",
	)
}

// A segment of which one bit is turned, whichever it is, is Bad and forgotten, and so are its copies.
func TestPairSpoils(t *testing.T) {
	wanted := append([]int64{}, math.MaxInt64, math.MaxInt64-1, 1<<32, 5)
	for n := int64(1); n <= 32*8+2; n++ {
		wanted = append(wanted, n)
	}
	for _, n := range wanted {
		bad := impl.Fate{Delay: 10, Spoil: n}
		checkPair(t, plainPair(), []impl.Fate{bad}, "B listen, A connect, wait 10 => A=2 B=1 sent=1 come=1 bad=1",
			"wait 989 => A=2 B=1 sent=1 come=1 bad=1", "wait 31 => A=4 B=4 sent=4 come=4 bad=1")
		checkPair(t, plainPair(), []impl.Fate{{Delay: 10}, bad}, "B listen, A connect, wait 20 => A=2 B=3 sent=2 come=2 bad=1")
		checkPair(t, plainPair(), opened(bad), append(pairOpens(), "A write 5, wait 10 => sent=4 come=4 bad=1", "B read 9 => code=21",
			"wait 200, B read 9 => data=5 sent=5 come=5 bad=1")...)
		checkPair(t, plainPair(), opened(bad), append(pairOpens(), "B write 5, wait 10 => sent=4 come=4 bad=1", "A read 9 => code=21",
			"wait 200, A read 9 => data=5 sent=5 come=5 bad=1")...)
	}
	checkPair(t, plainPair(), []impl.Fate{{Delay: 10, Copies: 3, Spoil: 9}}, "B listen, A connect, wait 40 => A=2 B=1 sent=1 come=4 bad=4",
		"wait 990 => A=4 B=4 bad=4 come=7")
	checkPair(t, plainPair(), []impl.Fate{{Delay: 10, Spoil: 0}}, "B listen, A connect, wait 10 => B=3 come=1 bad=0")
}

func TestPairSides(t *testing.T) {
	var lines []string
	for _, n := range aboutEnds() {
		if n < 0 || n > 2 {
			lines = append(lines, fmt.Sprintf("side %d => code=1 A=0 B=0 sent=0 come=0 bad=0", n))
		}
	}
	checkPair(t, plainPair(), nil, append(lines, "side 3 => code=1 A=0", "side 0 => A=2 B=0 sent=1", "side 1 => A=2 B=2 sent=2", "side 2 => A=3 B=3 sent=4")...)
	lines = nil
	for _, n := range aboutEnds(7, 10) {
		if n < 1 || n > 9 || n == 7 || n == 8 {
			lines = append(lines, fmt.Sprintf("A kind %d => code=1 A=4 B=4 sent=3 come=3", n), fmt.Sprintf("B kind %d => code=1 A=4 B=4 sent=3 come=3", n))
		}
	}
	checkPair(t, plainPair(), nil, append(pairOpens(), lines...)...)
	// What an operation does not name counts for nothing.
	ops := []impl.PairOp{
		{Side: 1, Wait: -1, Op: impl.TcpOp{Kind: impl.TcpDoListen, N: -1, Wait: -1, Segment: impl.Segment{Seq: -1}}},
		{Side: 0, Wait: lastTime + 1, Op: impl.TcpOp{Kind: impl.TcpDoConnect, N: -1, Wait: 99, Data: []byte("x")}},
		{Side: 2, Wait: 30, Op: impl.TcpOp{Kind: 99, N: -1, Wait: -1}},
	}
	outs := runAll(t, runningPair(plainPair(), nil), ops)
	if want := (impl.PairOut{StateA: 4, StateB: 4, Sent: 3, Come: 3}); !samePairOut(outs[2], want) || outs[0].Code != impl.OK || outs[1].Code != impl.OK {
		t.Error(outs)
	}
}

func TestPairOperations(t *testing.T) {
	for _, ends := range [][2]string{{"A", "B"}, {"B", "A"}} {
		of := func(lines ...string) []string {
			for i, line := range lines {
				lines[i] = strings.NewReplacer("x", ends[0], "y", ends[1]).Replace(line)
			}
			return lines
		}
		checkPair(t, plainPair(), nil, of(
			"y listen => y=1 x=0 sent=0", "y listen => code=13 y=1", "y connect => code=13 y=1",
			"x toobig 500 => code=13", "x shut => code=13 x=0", "x write 1 => code=13", "x abort => code=13",
			"x connect => x=2 sent=1", "x connect => code=13 sent=1", "x listen => code=13 sent=1", "x write 100 => took=100 sent=1",
			"wait 30 => x=4 y=4 sent=3 come=3", "y read 1 => data=1", "y read 0 => code=1", "y read 999 => data=99", "y read 1 => code=21",
			"wait 50 => sent=4 come=4", "x write 1001 => took=1000 sent=9", "x write 1 => code=18 sent=9", "x write 262145 => code=1", "x write 0 => sent=9",
			"x shut => x=5 sent=9", "x shut => code=13", "wait 10 => sent=11 come=9", "wait 990 => x=5 y=4", "y read 2000 => data=900",
			"wait 1000 => x=6 y=7", "y read 2000 => data=100", "y read 1 => code=17", "x read 1 => code=21", "y write 5 => took=5", "y shut => y=9",
			"wait 30, x read 9 => data=5 x=10 y=0", "x read 9 => code=17", "y shut => code=13 y=0", "y write 1 => code=13", "x shut => code=13 x=10",
			"x abort => x=0", "x abort => code=13", "x write 1 => code=17", "x read 5 => code=17", "wait 100000 => x=0 y=0 bad=0",
		)...)
		checkPair(t, plainPair(), nil, append(pairOpens(), of(
			"x toobig 67 => code=1", "x toobig 65536 => code=1", "x toobig 65535 => sent=3", "x write 128 => took=128 sent=4",
			"y toobig 104 => sent=4", "y write 128 => took=128 sent=6",
		)...)...)
	}
}

// keptPair is a pair of which A keeps the link up: three steps open it, and each 1020 milliseconds from 1020 on there
// are three more: A's timer, its probe at B, the answer at A.
func keptPair() impl.PairConfig {
	c := plainPair()
	c.A.Keep = 1000
	return c
}

func TestPairSpendsItsSteps(t *testing.T) {
	spent := "code=18 A=4 B=4 sent=13335 come=13334 bad=0"
	behind := []string{
		"wait 0 => " + spent, "wait 1 => " + spent, "wait -1 => " + spent, "wait 1000000001 => " + spent, "A write 5 => " + spent, "B write 0 => " + spent,
		"A read 1 => " + spent, "B read 0 => " + spent, "A abort => " + spent, "B shut => " + spent, "A connect => " + spent, "A toobig 100 => " + spent,
		"A kind 7 => " + spent, "B kind 99 => " + spent, "side 3 => " + spent, "side -1 => " + spent, "wait 1 => " + spent,
	}
	opens := []string{"B listen, A connect, wait 30 => A=4 B=4 sent=3 come=3"}
	// 3 + 6665 times 3 + 2 are 20000.
	checkPair(t, keptPair(), nil, append(append(opens,
		"wait 6799300 => A=4 B=4 sent=13335 come=13334", "wait 9 => A=4 B=4 sent=13335 come=13334", "B read 1 => code=21", "wait 1 => "+spent), behind...)...)
	checkPair(t, keptPair(), nil, append(append(opens, "wait 6799310 => "+spent), behind...)...)
	checkPair(t, keptPair(), nil, "B listen, A connect, wait 1000000000 => "+spent, "wait 0 => "+spent)
	// At the end of the steps the ends still do what they are told, and what they send is counted.
	checkPair(t, keptPair(), nil, append(opens, "wait 6799309 => sent=13335", "wait 0 =>", "B write 5 => took=5 sent=13336 come=13334",
		"A shut => A=5 sent=13337", "wait 0 => A=5", "wait 10 => code=18 A=5 B=4 sent=13337 come=13334", "B read 1 => code=18 A=5 B=4")...)
	// What is lost is no step.
	checkPair(t, plainPair(), []impl.Fate{{Delay: 1, Lose: true}}, "A connect, wait 1000000000 => A=0 B=0 sent=3 come=2")
}

// With one step more in the beginning it is a probe for whose coming there is no step, with two more a timer.
func TestPairSpentByATimer(t *testing.T) {
	fates := []impl.Fate{{Delay: 10}, {Delay: 10}, {Delay: 10, Copies: 1}}
	checkPair(t, keptPair(), fates, "B listen, A connect, wait 6799329 => A=4 B=4 sent=13334 come=13334", "wait 1 => code=18 sent=13334 come=13334")
	fates[2].Copies = 2
	checkPair(t, keptPair(), fates, "B listen, A connect, wait 6798320 => A=4 B=4 sent=13333 come=13335", "wait 999 => sent=13333",
		"wait 1 => code=18 sent=13333 come=13335")
}

// pairStory has what a run told of its two streams: by side what has been taken and what has been read, whether a read
// told the end, and whether the end may be told ahead of all the bytes.
type pairStory struct {
	taken, read   [2][]byte
	ended, excuse [2]bool
}

// storyOf asks ahead of the end, too, for what is asked of whatever has been read.
func storyOf(t *testing.T, ops []impl.PairOp, outs []impl.PairOut) *pairStory {
	t.Helper()
	s := &pairStory{}
	for i, op := range ops {
		if out := outs[i]; op.Side == impl.SideA || op.Side == impl.SideB {
			s.add(t, op, out)
		}
	}
	return s
}

func (s *pairStory) add(t *testing.T, op impl.PairOp, out impl.PairOut) {
	t.Helper()
	side, other := op.Side, 1-op.Side
	states := [2]int64{out.StateA, out.StateB}
	switch {
	case op.Op.Kind == impl.TcpDoWrite && out.Took > 0:
		s.taken[side] = append(s.taken[side], op.Op.Data[:out.Took]...)
	case op.Op.Kind == impl.TcpDoAbort && out.Code == impl.OK:
		s.excuse[side] = true
	case op.Op.Kind == impl.TcpDoShut && out.Code == impl.OK && states[side] == impl.TcpClosed:
		s.excuse[side] = true
	case op.Op.Kind == impl.TcpDoRead:
		s.read[side] = append(s.read[side], out.Data...)
		if !bytes.HasPrefix(s.taken[other], s.read[side]) {
			t.Fatal("something is read that was not written there")
		}
		s.ended[side] = s.ended[side] || out.Code == impl.ErrClosed
		if out.Code == impl.ErrClosed && !s.excuse[side] && !bytes.Equal(s.taken[other], s.read[side]) {
			t.Fatalf("the end is told behind %d of %d bytes", len(s.read[side]), len(s.taken[other]))
		}
	}
}

// whole tells whether both ends have read all, and have been told the end.
func (s *pairStory) whole() bool {
	return s.ended[0] && s.ended[1] && bytes.Equal(s.taken[0], s.read[1]) && bytes.Equal(s.taken[1], s.read[0])
}

// talk is a script of two ends that write, read and wait, in which the model tells how far things are.
func (s *pairScript) talk(rounds int, mostWait int64) {
	for range rounds {
		side := s.chance.Int63n(2)
		switch s.chance.Intn(4) {
		case 0:
			s.add(sideWrite(side, randomBytes(s.chance, s.chance.Intn(500))))
		case 1:
			s.add(sideRead(side, pick[int64](s.chance, 1, 10, 1000, 1<<40)))
		default:
			s.add(waitingFor(pick(s.chance, 1, 10, mostWait, s.chance.Int63n(mostWait+1))))
		}
	}
}

func (s *pairScript) both(kind int64) {
	s.add(sideOp(impl.SideA, kind))
	s.add(sideOp(impl.SideB, kind))
}

// opens lets one end listen and the other connect, or both connect.
func (s *pairScript) opens() {
	side := s.chance.Int63n(2)
	s.add(sideOp(side, pick[int64](s.chance, impl.TcpDoListen, impl.TcpDoListen, impl.TcpDoConnect)))
	s.add(sideOp(1-side, impl.TcpDoConnect))
}

func (s *pairScript) isOpen() bool { return s.m.ends[0].isOpen() && s.m.ends[1].isOpen() }

// P27: with lost, doubled, delayed and spoilt segments, and with whatever operations, what is read is a prefix of what
// was taken, and when the end is told it is all of it.
func TestPairReadsAPrefix(t *testing.T) {
	chance := newChance()
	ended, read := 0, 0
	for i := range 2500 {
		s := newPairScript(chance, randomPairConfig(chance), randomFates(chance, pick(chance, 20, 100, 400)))
		if i%2 == 0 {
			s.opens()
			s.talk(100, 2000)
			s.both(impl.TcpDoShut)
			s.talk(20, 20000)
		} else {
			for range 100 + chance.Intn(100) {
				s.add(s.randomOp())
			}
		}
		for range 40 {
			s.add(waitingFor(10000))
			s.both(impl.TcpDoRead)
		}
		story := storyOf(t, s.ops, runAll(t, runningPair(s.m.c, s.m.fates), s.ops))
		ended += int(oneIf(story.ended[0]) + oneIf(story.ended[1]))
		read += len(story.read[0]) + len(story.read[1])
	}
	if ended < 1500 || read < 500000 {
		t.Errorf("only %d ends were told, %d bytes read", ended, read)
	}
}

// mildFates all come within 400 milliseconds, their copies too, but for so many that are lost or spoilt.
func mildFates(chance *rand.Rand, n, ill int) []impl.Fate {
	fates := make([]impl.Fate, n)
	slow := 1 + chance.Int63n(400)
	for i := range fates {
		f := &fates[i]
		f.Delay = pick(chance, slow, 1+chance.Int63n(slow))
		if often(chance, 10) {
			f.Copies = min(chance.Int63n(4), 400/f.Delay-1)
		}
	}
	from := chance.Intn(40)
	for range ill {
		f := &fates[pick(chance, chance.Intn(8), from+chance.Intn(5), chance.Intn(100))]
		f.Lose = often(chance, 60)
		if !f.Lose {
			f.Spoil = 1 + chance.Int63n(1000)
		}
	}
	return fates
}

func mildPair(chance *rand.Rand, leastBuffer int64) impl.PairConfig {
	c := randomPairConfig(chance)
	c.Delay = 1 + chance.Int63n(400)
	for _, end := range []*impl.TcpConfig{&c.A, &c.B} {
		end.SendSize = max(end.SendSize, leastBuffer)
		end.RecvSize = max(end.RecvSize, leastBuffer)
	}
	return c
}

// P28: with up to four segments lost or spoilt all is read, and both ends are told, in time.
func TestPairReadsAllBehindLosses(t *testing.T) {
	chance := newChance()
	var written int
	for range 600 {
		s := newPairScript(chance, mildPair(chance, 100), mildFates(chance, 400, chance.Intn(5)))
		s.opens()
		left := [2]int{chance.Intn(1601), chance.Intn(1601)}
		openAt, isShut := int64(-1), false
		for s.m.now < 1000000 {
			for side := range int64(2) {
				if n := min(left[side], chance.Intn(800)); n > 0 && !isShut && often(chance, 50) {
					left[side] -= int(s.add(sideWrite(side, randomBytes(chance, n))).Took)
				}
				s.add(sideRead(side, 1<<40))
			}
			if openAt < 0 && s.isOpen() {
				openAt = s.m.now
			}
			if openAt >= 0 && s.m.now >= openAt+100000 && !isShut {
				isShut = true
				s.both(impl.TcpDoShut)
			}
			wait := int64(5000)
			if s.m.now < 100000 {
				wait = pick(chance, 100, 1000, 5000, 5000, chance.Int63n(5000))
			}
			s.add(waitingFor(min(wait, 1000000-s.m.now)))
		}
		s.both(impl.TcpDoRead)
		story := storyOf(t, s.ops, runAll(t, runningPair(s.m.c, s.m.fates), s.ops))
		if !story.whole() {
			t.Fatalf("%+v, %+v: %d of %d and %d of %d read, ends %v", s.m.c, s.m.fates[:100], len(story.read[1]), len(story.taken[0]), len(story.read[0]), len(story.taken[1]), story.ended)
		}
		written += len(story.taken[0]) + len(story.taken[1])
	}
	if written < 600*1000 {
		t.Errorf("only %d bytes were taken", written)
	}
}

// P29: where nothing is lost no operation tells that the other end has reset, refused, or does not answer. Complaints
// are left out: by chapter 17 what is sent again behind one, and comes in another order, may tell an end of a window that
// is not there, and what it sends into that is not acknowledged until the other end reads.
func TestPairTellsNoFaultOfItsOwn(t *testing.T) {
	chance := newChance()
	bothOpen := 0
	for range 2000 {
		c := mildPair(chance, pick[int64](chance, 1, 1, 100))
		c.A.Keep, c.B.Keep = 0, 0
		s := newPairScript(chance, c, mildFates(chance, pick(chance, 0, 10, 200), 0))
		side := chance.Int63n(2)
		s.add(sideOp(side, impl.TcpDoListen))
		s.talk(chance.Intn(3), 100)
		s.add(sideOp(1-side, impl.TcpDoConnect))
		openAt := int64(-1)
		for range 50 + chance.Intn(150) {
			op := s.randomOp()
			aborts := op.Op.Kind == impl.TcpDoAbort || op.Op.Kind == impl.TcpDoTooBig
			shuts := op.Op.Kind == impl.TcpDoShut && (openAt < 0 || s.m.now < openAt+2000)
			if op.Side != impl.SideWait && (aborts || shuts) {
				continue
			}
			s.add(op)
			if openAt < 0 && s.isOpen() {
				openAt = s.m.now
			}
		}
		bothOpen += int(oneIf(openAt >= 0))
		for i, out := range runAll(t, runningPair(c, s.m.fates), s.ops) {
			if out.Code == impl.ErrReset || out.Code == impl.ErrRefused || out.Code == impl.ErrTimeout {
				t.Fatalf("%+v, %+v: operation %d, %+v, answers %d", c, s.m.fates, i, s.ops[i], out.Code)
			}
		}
	}
	if bothOpen < 1900 {
		t.Errorf("only %d were open", bothOpen)
	}
}

// P30: where nothing is lost both ends are closed 200 seconds behind their closing.
func TestPairCloses(t *testing.T) {
	chance := newChance()
	for range 1500 {
		c := mildPair(chance, 500)
		c.A.Keep, c.B.Keep = 0, 0
		s := newPairScript(chance, c, mildFates(chance, pick(chance, 0, 10, 200), 0))
		s.opens()
		s.add(waitingFor(2000))
		first := chance.Int63n(2)
		for side := range int64(2) {
			s.add(sideWrite(side, randomBytes(chance, chance.Intn(400))))
			s.add(waitingFor(pick(chance, 0, 10, chance.Int63n(1000))))
		}
		s.add(sideOp(first, impl.TcpDoShut))
		s.add(waitingFor(pick(chance, 0, 1, 10, 1000, chance.Int63n(1001))))
		s.add(sideOp(1-first, impl.TcpDoShut))
		s.add(waitingFor(200000))
		outs := runAll(t, runningPair(c, s.m.fates), s.ops)
		if end := outs[len(outs)-1]; end.StateA != impl.TcpClosed || end.StateB != impl.TcpClosed {
			t.Fatalf("%+v, %+v: in the end %+v", c, s.m.fates, end)
		}
		if outs[len(outs)-2].Code != impl.OK || outs[len(outs)-4].Code != impl.OK {
			t.Fatalf("not shut by both: %+v", outs)
		}
	}
}

// otherSide is the same with A for B.
func otherSide(op impl.PairOp) impl.PairOp {
	if op.Side == impl.SideA || op.Side == impl.SideB {
		op.Side = 1 - op.Side
	}
	return op
}

// P31: with A for B everywhere a run without fates tells the same with A for B.
func TestPairHasEqualSides(t *testing.T) {
	chance := newChance()
	open := 0
	for range 2000 {
		s := newPairScript(chance, randomPairConfig(chance), nil)
		if often(chance, 50) {
			s.opens()
		}
		var turned []impl.PairOp
		for range 20 + chance.Intn(95) {
			op := s.randomOp()
			if op.Side == impl.SideWait {
				op.Wait = min(op.Wait, 5000)
			}
			s.add(op)
			if often(chance, 20) && op.Side != impl.SideWait {
				s.add(otherSide(op))
			}
			if len(s.ops) >= 119 {
				break
			}
		}
		open += int(oneIf(s.isOpen()))
		for _, op := range s.ops {
			turned = append(turned, otherSide(op))
		}
		c := s.m.c
		outs := runAll(t, runningPair(c, nil), s.ops)
		for i, out := range runAll(t, runningPair(impl.PairConfig{A: c.B, B: c.A, Delay: c.Delay}, nil), turned) {
			out.StateA, out.StateB = out.StateB, out.StateA
			if !samePairOut(out, outs[i]) {
				t.Fatalf("%+v, operation %d, %s: %s the other way round, not %s", c, i, shortly(s.ops[i]), shortly(out), shortly(outs[i]))
			}
		}
	}
	if open < 500 {
		t.Errorf("only %d were open in the end", open)
	}
}

// P52: an end that reads nothing for long, and little at a time then, gets all.
func TestPairReadsLate(t *testing.T) {
	chance := newChance()
	for range 400 {
		c := mildPair(chance, 100)
		writer, reader := &c.A, &c.B
		side := chance.Int63n(2)
		if side == 1 {
			writer, reader = reader, writer
		}
		writer.SendSize, reader.RecvSize = 3000, 100+chance.Int63n(401)
		s := newPairScript(chance, c, mildFates(chance, 400, chance.Intn(4)))
		s.opens()
		if often(chance, 50) {
			s.add(waitingFor(chance.Int63n(3000)))
		}
		s.add(sideWrite(side, randomBytes(chance, pick(chance, 3000, 1+chance.Intn(3000)))))
		s.add(waitingFor(30000))
		for range 500 {
			s.add(waitingFor(1000))
			s.add(sideRead(1-side, 1<<40))
		}
		story := storyOf(t, s.ops, runAll(t, runningPair(c, s.m.fates), s.ops))
		if len(story.taken[side]) == 0 || !bytes.Equal(story.taken[side], story.read[1-side]) {
			t.Fatalf("%+v, %+v: %d of %d bytes are read", c, s.m.fates[:120], len(story.read[1-side]), len(story.taken[side]))
		}
	}
}

// P53: an end that keeps the link up tells that nobody answers just when its probes are spent.
func TestPairKeeps(t *testing.T) {
	lost := slices.Repeat([]impl.Fate{{Lose: true, Delay: 1}}, 100)
	for _, keep := range []int64{1000, 1001, 5000, 70000, 1000000, 999949970} {
		for side, name := range []string{"A", "B"} {
			for _, opensAt := range []int64{20, 30} {
				c := plainPair()
				end, begin := &c.A, "B listen, A connect"
				if side == 1 {
					end = &c.B
				}
				// Whoever connects is open at 20 milliseconds, the other one at 30.
				if (side == 0) != (opensAt == 20) {
					begin = "A listen, B connect"
				}
				end.Keep = keep
				other := strings.NewReplacer("A", "B", "B", "A").Replace(name)
				dies := fmt.Sprintf("%s, wait %d", begin, opensAt+keep+50000-1)
				checkPair(t, c, opened(lost...), dies, name+" read 1 => code=21 "+name+"=4", "wait 1 => "+name+"=0 "+other+"=4",
					name+" read 1 => code=15", name+" write 1 => code=15", other+" read 1 => code=21")
				checkPair(t, c, nil, begin+fmt.Sprintf(", wait %d", min(opensAt+keep+50000, 1000000)), name+" read 1 => code=21 A=4 B=4",
					"wait 1000000 => A=4 B=4", name+" read 1 => code=21")
			}
		}
	}
}

// P54: an end that is never answered sends its SYN nine times, and tells so at 243 seconds, not ahead of that.
func TestPairIsNotAnswered(t *testing.T) {
	for _, name := range []string{"A", "B"} {
		lost := slices.Repeat([]impl.Fate{{Lose: true, Delay: 1}}, 20)
		var lines []string
		for i, ms := range []int64{999, 2000, 4000, 8000, 16000, 32000, 60000, 60000, 60000} {
			line := fmt.Sprintf("wait %d => %s=2 sent=%d come=0", ms, name, i+1)
			if i == 0 {
				line = fmt.Sprintf("%s connect, %s", name, line)
			}
			lines = append(lines, line)
		}
		checkPair(t, plainPair(), lost, append(lines, name+" read 1 => code=21", "wait 1 => A=0 B=0 sent=9 come=0", name+" read 1 => code=15",
			name+" write 1 => code=15", "wait 100000 => sent=9")...)
		checkPair(t, plainPair(), nil, name+" connect, wait 19 => "+name+"=2 sent=2", name+" read 1 => code=21", "wait 1 => A=0 B=0 sent=2 come=2",
			name+" read 1 => code=16", name+" write 1 => code=16")
	}
}

// P56: many bytes that are written at once are read at once, in time. By chapter 17 a reader of great segments, with a
// buffer of less than twice what a SYN's window has room for, allows no more than that room until something is read; and
// windows are told in fours, so that of bytes in other segments than of fours up to three may wait for the reading.
func TestPairCarriesMany(t *testing.T) {
	chance := newChance()
	for i := range 60 {
		size := 70000 + 4*chance.Int63n(32501)
		if i < 3 {
			size = []int64{70000, 200000, 131072}[i]
		}
		c := randomPairConfig(chance)
		c.Delay = pick(chance, 1, 50, 1+chance.Int63n(50))
		for _, end := range []*impl.TcpConfig{&c.A, &c.B} {
			end.SendSize, end.RecvSize, end.Mss = size, size, pick(chance, 1000, 1460, 65492, 1000+4*chance.Int63n(800))
		}
		side := chance.Int63n(2)
		if reader := []*impl.TcpConfig{&c.B, &c.A}[side]; size < 131071 {
			reader.Mss = min(reader.Mss, (size-65535)/8*4)
		}
		s := newPairScript(chance, c, nil)
		s.opens()
		if often(chance, 70) {
			s.add(waitingFor(1000))
		}
		s.add(sideWrite(side, randomBytes(chance, int(size))))
		s.add(waitingFor(120000))
		s.add(sideRead(1-side, size))
		outs := runAll(t, runningPair(c, nil), s.ops)
		if got := outs[len(outs)-1]; got.Code != impl.OK || !bytes.Equal(got.Data, s.ops[len(s.ops)-3].Op.Data) {
			t.Fatalf("%+v, %d bytes written: %d bytes read, %d", c, size, len(got.Data), got.Code)
		}
	}
}

// roomyPairOps are the same operations in memory of their own, with room behind their lists, and two more behind them.
func roomyPairOps(ops []impl.PairOp) []impl.PairOp {
	room := append(slices.Clone(ops), sideOp(impl.SideA, impl.TcpDoListen), waitingFor(5))
	for i, op := range room {
		room[i].Op.Data = append(bytes.Clone(op.Op.Data), "room"...)[:len(op.Op.Data)]
	}
	return room
}

func samePairOp(a, b impl.PairOp) bool {
	return a.Side == b.Side && a.Wait == b.Wait && a.Op.Kind == b.Op.Kind && a.Op.N == b.Op.N && a.Op.Wait == b.Op.Wait &&
		bytes.Equal(a.Op.Data[:len(a.Op.Data)+4], b.Op.Data[:len(b.Op.Data)+4])
}

func clonePairOuts(outs []impl.PairOut) []impl.PairOut {
	list := slices.Clone(outs)
	for i, out := range outs {
		list[i].Data = bytes.Clone(out.Data)
	}
	return list
}

// P51: a run answers the same again and changes none of its arguments, the room behind their lists included; what it
// tells is in nobody else's memory, and a list that is written into, up to its capacity, changes no other one.
func TestPairSharesNothing(t *testing.T) {
	chance := newChance()
	for range 300 {
		s := newPairScript(chance, randomPairConfig(chance), randomFates(chance, 60))
		s.opens()
		s.talk(100, 300)
		room, kept := roomyPairOps(s.ops), roomyPairOps(s.ops)
		fates := append(slices.Clone(s.m.fates), impl.Fate{Delay: 5}, impl.Fate{Copies: 9})
		keptFates := slices.Clone(fates)
		run := runningPair(s.m.c, fates[:len(s.m.fates)])
		first := runAll(t, run, room[:len(s.ops)])
		told := clonePairOuts(first)
		second := runAll(t, run, room[:len(s.ops)])
		if !samePairOuts(told, s.want) || !samePairOuts(second, told) {
			t.Fatal("another answer the second time")
		}
		for i := range second {
			spoil(second[i].Data, 99)
			second[i].Data = told[i].Data
			if !samePairOuts(second, told) {
				t.Fatalf("the bytes of operation %d are in another list's memory", i)
			}
		}
		if !slices.EqualFunc(room, kept, samePairOp) || !slices.Equal(fates, keptFates) {
			t.Fatal("an argument was changed, or an answer is in its memory")
		}
		for _, op := range room {
			spoil(op.Op.Data, 96)
		}
		clear(room)
		clear(fates)
		if !samePairOuts(first, told) {
			t.Fatal("an answer is in an argument's memory")
		}
	}
}

// P51: runs at the same time on the same arguments answer the same, and nothing of them is left behind.
func TestPairAtTheSameTime(t *testing.T) {
	chance := newChance()
	s := newPairScript(chance, plainPair(), randomFates(chance, 100))
	s.opens()
	for range 300 {
		s.add(s.randomOp())
	}
	before := runtime.NumGoroutine()
	done := make(chan bool)
	for range 8 {
		go func() {
			same := true
			for range 20 {
				outs, code := impl.RunPair(s.m.c, s.m.fates, s.ops)
				same = same && code == impl.OK && samePairOuts(outs, s.want)
			}
			done <- same
		}()
	}
	for range 8 {
		if !<-done {
			t.Error("another answer beside others")
		}
	}
	impl.RunPair(plainPair(), nil, nil)
	impl.RunPair(plainPair(), nil, make([]impl.PairOp, impl.MaxOps+1))
	impl.RunPair(keptPair(), nil, []impl.PairOp{sideOp(1, impl.TcpDoListen), sideOp(0, impl.TcpDoConnect), waitingFor(lastTime)})
	// One that has just been joined may still be counted for a moment.
	for range 1000 {
		if runtime.NumGoroutine() <= before {
			return
		}
		time.Sleep(time.Millisecond)
	}
	t.Errorf("%d goroutines more than ahead of the runs", runtime.NumGoroutine()-before)
}

// P51: whatever the numbers are, a run ends, and answers what the model does.
func TestPairHostileOperations(t *testing.T) {
	chance := newChance()
	numbers := append(edgeNumbers(), 1, 2, 3, 4, 5, 64, 100, 1000)
	number := func() int64 { return numbers[chance.Intn(len(numbers))] }
	for range 1000 {
		c := randomPairConfig(chance)
		fates := randomFates(chance, 50)
		for i := range fates {
			fates[i].Spoil = max(0, fates[i].Spoil, number()*oneIf(often(chance, 5)))
		}
		s := newPairScript(chance, c, fates)
		s.opens()
		for range chance.Intn(80) {
			op := s.randomOp()
			switch chance.Intn(6) {
			case 0:
				op.Side = number()
			case 1:
				op.Wait = number()
			case 2:
				op.Op.N = number()
			case 3:
				op.Op.Kind = number()
			}
			if op.Side == impl.SideWait && op.Wait > 10000000 && often(chance, 90) {
				op.Wait %= 10000
			}
			s.add(op)
		}
		s.check(t)
	}
}

// P51: whatever a configuration has, a call ends, and with another code than OK it tells nothing else.
func TestPairHostileConfigurations(t *testing.T) {
	chance := newChance()
	numbers := edgeNumbers()
	number := func() int64 { return numbers[chance.Intn(len(numbers))] }
	for range 20000 {
		c := plainPair()
		fates := []impl.Fate{{Delay: 10}, {Delay: 20}}
		for range 1 + chance.Intn(3) {
			end := []*impl.TcpConfig{&c.A, &c.B}[chance.Intn(2)]
			switch n := chance.Intn(12); n {
			case 7, 8:
				c.Delay = number()
			case 9:
				fates[chance.Intn(2)].Copies = number()
			case 10:
				fates[chance.Intn(2)].Delay = number()
			case 11:
				fates[chance.Intn(2)].Spoil = number()
			default:
				tcpNumbers()[n].set(end, number())
			}
		}
		ops := []impl.PairOp{sideOp(1, impl.TcpDoListen), sideOp(0, impl.TcpDoConnect), waitingFor(100000)}
		outs, code := impl.RunPair(c, fates, ops)
		if code != impl.OK && (code != impl.ErrForm || len(outs) != 0) || code == impl.OK && len(outs) != 3 {
			t.Fatalf("%+v, %+v: %d answers, %d", c, fates, len(outs), code)
		}
	}
}

// P51: as many operations, fates and steps as there may be end.
func TestPairLongRuns(t *testing.T) {
	end := endWith(func(c *impl.TcpConfig) { c.Mss, c.SendSize, c.RecvSize, c.NoDelay = 64, mostWritten, mostWritten, true })
	fates := make([]impl.Fate, impl.MaxFates)
	for i := range fates {
		fates[i] = impl.Fate{Delay: 1 + int64(i*7919%1000), Copies: 3}
	}
	ops := []impl.PairOp{sideOp(impl.SideB, impl.TcpDoListen), sideOp(impl.SideA, impl.TcpDoConnect)}
	for len(ops) < impl.MaxOps {
		ops = append(ops, sideWrite(int64(len(ops)%2), make([]byte, mostWritten)), waitingFor(1000), sideRead(int64(len(ops)%2), 1<<40))
	}
	outs := runAll(t, runningPair(pairOf(end, end, 50), fates), ops[:impl.MaxOps])
	if last := outs[impl.MaxOps-1]; last.Code != impl.ErrFull || last.Come < 15000 || last.StateA != impl.TcpEstablished || last.StateB != impl.TcpEstablished {
		t.Errorf("in the end %+v", last)
	}
}
