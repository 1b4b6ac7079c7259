package tests

import (
	"bytes"
	"fmt"
	"maps"
	"math/rand"
	"slices"
	"strings"
	"testing"

	"loop.example/g00003/impl"
)

// mostWritten bounds the bytes of one writing.
const mostWritten = 262144

// plainEnd is what most scripts run with.
func plainEnd() impl.TcpConfig {
	return impl.TcpConfig{LocalPort: 1000, RemotePort: 80, Iss: 100, SendSize: 1000, RecvSize: 1000, Mss: 100}
}

// endWith is plainEnd with a few things set.
func endWith(set func(c *impl.TcpConfig)) impl.TcpConfig {
	c := plainEnd()
	set(&c)
	return c
}

// streamByte is the byte of a stream that has a sequence number.
func streamByte(seq int64) byte { return byte(seq%allSeqs*7>>2 + 3) }

func streamBytes(seq int64, n int) []byte {
	b := make([]byte, n)
	for i := range b {
		b[i] = streamByte(seq + int64(i))
	}
	return b
}

// tcpText is a script with what it must tell, line for line: "operation => told". What is written and what comes has
// the bytes that belong to its places, and so must have what is sent and read; texts tell only how many, as "*5".
type tcpText struct {
	c impl.TcpConfig
	// written is the sequence number of the next byte that is written, read that of the next one that is read.
	written, read int64
	ops           []impl.TcpOp
}

// operation is "connect", "write 5", "come A 501 101 2000 *5" and so on.
func (s *tcpText) operation(t *testing.T, text string) impl.TcpOp {
	t.Helper()
	name, rest, _ := strings.Cut(text, " ")
	n := numberOr(rest, 0)
	switch name {
	case "connect":
		return impl.TcpOp{Kind: impl.TcpDoConnect}
	case "listen":
		return impl.TcpOp{Kind: impl.TcpDoListen}
	case "write":
		return impl.TcpOp{Kind: impl.TcpDoWrite, Data: streamBytes(s.written, int(n))}
	case "read":
		return impl.TcpOp{Kind: impl.TcpDoRead, N: n}
	case "shut":
		return impl.TcpOp{Kind: impl.TcpDoShut}
	case "abort":
		return impl.TcpOp{Kind: impl.TcpDoAbort}
	case "pass":
		return impl.TcpOp{Kind: impl.TcpDoPass, Wait: n}
	case "toobig":
		return impl.TcpOp{Kind: impl.TcpDoTooBig, N: n}
	case "come":
		return impl.TcpOp{Kind: impl.TcpDoSegment, Segment: s.segment(t, rest)}
	}
	t.Fatalf("no operation: %q", text)
	return impl.TcpOp{}
}

func (s *tcpText) segment(t *testing.T, text string) impl.Segment {
	t.Helper()
	text, count, _ := strings.Cut(text, " *")
	g, code := impl.ReadSegment(fmt.Sprintf("%d>%d %s", s.c.RemotePort, s.c.LocalPort, text))
	if code != impl.OK {
		t.Fatalf("no segment: %q", text)
	}
	from := g.Seq
	if g.Flags&segSyn != 0 {
		from++
	}
	g.Data = streamBytes(from, int(numberOr(count, 0)))
	return g
}

// sentText asks that a segment has the ports and the bytes that it must have, and tells the rest.
func (s *tcpText) sentText(t *testing.T, g impl.Segment) string {
	t.Helper()
	if string(g.Data) != string(streamBytes(g.Seq, len(g.Data))) {
		t.Errorf("other bytes in %s", shortly(g))
	}
	n := len(g.Data)
	g.Data = nil
	text, code := impl.ShowSegment(g)
	text, found := strings.CutPrefix(text, fmt.Sprintf("%d>%d ", s.c.LocalPort, s.c.RemotePort))
	if code != impl.OK || !found {
		t.Errorf("no segment of this end: %s", shortly(g))
	}
	if n > 0 {
		text += fmt.Sprintf(" *%d", n)
	}
	return text
}

// toldText has all that an operation told; told has what it must tell. Of that code, took and data count as 0, and what
// is sent as nothing, where they are not named; all else is asked only where it is named.
func (s *tcpText) check(t *testing.T, op string, out impl.TcpOut, told string) {
	t.Helper()
	var sent []string
	for _, g := range out.Sent {
		sent = append(sent, s.sentText(t, g))
	}
	if string(out.Data) != string(streamBytes(s.read, len(out.Data))) {
		t.Errorf("%s: other bytes are read: %x", op, out.Data)
	}
	s.written += out.Took
	s.read += int64(len(out.Data))
	has := map[string]int64{
		"code": out.Code, "took": out.Took, "data": int64(len(out.Data)), "state": out.State, "cwnd": out.Cwnd,
		"flight": out.Flight, "unsent": out.Unsent, "unread": out.Unread,
	}
	want := map[string]int64{"code": 0, "took": 0, "data": 0}
	words, segments, _ := strings.Cut(told, ":")
	for _, word := range strings.Fields(words) {
		name, number, _ := strings.Cut(word, "=")
		want[name] = numberIn(number)
	}
	for name, n := range want {
		if got, known := has[name]; !known || got != n {
			t.Errorf("%s: %s is %d, not %d", op, name, got, n)
		}
	}
	if got := strings.Join(sent, "; "); got != strings.TrimSpace(segments) {
		t.Errorf("%s: sends %q, not %q", op, got, strings.TrimSpace(segments))
	}
}

// checkTcp runs a script; a line of it may have several operations, of which only the last one's telling is asked. A
// line without "=>" asks nothing but that the operations are taken.
func checkTcp(t *testing.T, c impl.TcpConfig, lines ...string) {
	t.Helper()
	s := &tcpText{c: c, written: c.Iss + 1}
	m := newModelEnd(c)
	for _, line := range lines {
		operations, told, asked := strings.Cut(line, " =>")
		list := strings.Split(operations, ", ")
		for i, text := range list {
			op := s.operation(t, text)
			s.ops = append(s.ops, op)
			outs := runAll(t, running(c), s.ops)
			out := outs[len(outs)-1]
			if want := m.do(op); !sameTcpOut(out, want) {
				t.Errorf("%s: %s, not %s", line, shortly(out), shortly(want))
			}
			if op.Kind == impl.TcpDoSegment && s.read == 0 && op.Segment.Flags&segSyn != 0 {
				s.read = op.Segment.Seq + 1
			}
			switch {
			case i == len(list)-1 && asked:
				s.check(t, line, out, told)
			case out.Code != impl.OK:
				t.Errorf("%s: %s answers %d", line, text, out.Code)
			default:
				s.written += out.Took
				s.read += int64(len(out.Data))
			}
		}
	}
}

// following is one line behind others.
func following(ahead []string, lines ...string) []string {
	return append(append([]string(nil), ahead...), lines...)
}

// tcpScript is a script that is written while a model does it, so that what comes next can hang on how the end stands.
type tcpScript struct {
	chance *rand.Rand
	m      *modelEnd
	ops    []impl.TcpOp
	want   []impl.TcpOut
	// window is the latest one, and is the next one more often than not.
	window int64
}

func newTcpScript(chance *rand.Rand, c impl.TcpConfig) *tcpScript {
	return &tcpScript{chance: chance, m: newModelEnd(c)}
}

func (s *tcpScript) add(op impl.TcpOp) impl.TcpOut {
	s.ops = append(s.ops, op)
	out := s.m.do(op)
	s.want = append(s.want, out)
	return out
}

func pick[T any](chance *rand.Rand, list ...T) T { return list[chance.Intn(len(list))] }

// often holds n times out of a hundred.
func often(chance *rand.Rand, n int) bool { return chance.Intn(100) < n }

func randomTcpConfig(chance *rand.Rand) impl.TcpConfig {
	return impl.TcpConfig{
		LocalPort: pick[int64](chance, 0, 1000, 65535), RemotePort: pick[int64](chance, 0, 80, 65535),
		Iss:      pick(chance, chance.Int63n(allSeqs), 0, allSeqs-1, allSeqs-100),
		SendSize: pick(chance, 1, 2, 100, 1000, 5000, 1+chance.Int63n(600)),
		RecvSize: pick(chance, 1, 2, 100, 1000, 5000, 1+chance.Int63n(600), 65535, 65536, 131071, 262144),
		Mss:      pick(chance, 64, 65, 100, 536, 1460, 65495, 64+chance.Int63n(200)),
		Keep:     pick[int64](chance, 0, 0, 0, 1000, 5000, 100000),
		NoDelay:  often(chance, 40),
	}
}

func (s *tcpScript) randomWindow() int64 {
	if !often(s.chance, 60) {
		s.window = pick(s.chance, 0, 1, 50, 64, 100, 127, 128, 129, 200, 1000, 5000, 65535, s.chance.Int63n(65536), s.chance.Int63n(300))
	}
	return s.window
}

func (s *tcpScript) coming(flags, seq, ack int64) impl.Segment {
	return impl.Segment{
		SrcPort: s.m.c.RemotePort, DstPort: s.m.c.LocalPort,
		Seq: (seq%allSeqs + allSeqs) % allSeqs, Ack: (ack%allSeqs + allSeqs) % allSeqs, Flags: flags, Window: s.randomWindow(),
	}
}

func (s *tcpScript) addOptions(g *impl.Segment) {
	g.Mss = pick[int64](s.chance, 0, 1, 63, 64, 65, 100, 536, 1460, 65535)
	g.HasScale = often(s.chance, 50)
	if g.HasScale {
		g.Scale = pick[int64](s.chance, 0, 1, 2, 7, 14)
	}
	g.SackOK = often(s.chance, 50)
}

// opening is what may come ahead of being linked.
func (s *tcpScript) opening() impl.Segment {
	seq := pick(s.chance, s.chance.Int63n(allSeqs), allSeqs-1, allSeqs-50, 0)
	if s.m.state == 1 {
		g := s.coming(pick[int64](s.chance, segSyn, segSyn, segSyn, segSyn|segFin|segUrg, segAck, segRst, segSyn|segAck, segSyn|segRst, 0, segFin, s.chance.Int63n(64)), seq, s.chance.Int63n(allSeqs))
		s.addOptions(&g)
		return g
	}
	ack := s.m.c.Iss + pick[int64](s.chance, 1, 1, 1, 1, 1, 0, 2, s.chance.Int63n(allSeqs))
	g := s.coming(pick[int64](s.chance, segSyn|segAck, segSyn|segAck, segSyn|segAck, segSyn, segSyn, segAck, segRst, segRst|segAck, segRst|segSyn, 0, s.chance.Int63n(64)), seq, ack)
	s.addOptions(&g)
	return g
}

func (s *tcpScript) randomAck() int64 {
	m := s.m
	if len(m.board.Pieces) > 0 && often(s.chance, 50) {
		return m.number(m.board.Pieces[s.chance.Intn(len(m.board.Pieces))].To)
	}
	place := pick(s.chance, m.una(), m.una(), m.una(), m.una(), m.nxt(), m.nxt(), m.nxt(), m.una()+s.chance.Int63n(m.nxt()-m.una()+1))
	if often(s.chance, 8) {
		place = pick(s.chance, m.una()-1, m.nxt()+1, m.una()-m.largest, m.una()-m.largest-1, m.una()-s.chance.Int63n(70000), s.chance.Int63n(allSeqs))
	}
	return m.number(place)
}

func (s *tcpScript) randomPlace(length int64) int64 {
	m := s.m
	if often(s.chance, 60) {
		return m.r()
	}
	r, w := m.r(), m.windowNow()
	if often(s.chance, 50) {
		return r + s.chance.Int63n(min(w, 300)+1)
	}
	return pick(s.chance, r-1, r+1, r+w-1, r+w, r+w+1, r-length, r-length+1, r-length-1, r+w-length, r+w-length+1, r-s.chance.Int63n(300), s.chance.Int63n(allSeqs))
}

func (s *tcpScript) randomFlags() int64 {
	switch n := s.chance.Intn(100); {
	case n < 82:
		return segAck | segPsh*s.chance.Int63n(2)
	case n < 90:
		return segAck | segFin
	case n < 92:
		return segAck | segSyn
	case n < 94:
		return pick[int64](s.chance, segRst, segRst|segAck)
	case n < 95:
		return 0
	case n < 97:
		return segAck | segUrg
	}
	return s.chance.Int63n(64)
}

// stretchNear has most often an end of a piece at each of its own.
func (s *tcpScript) stretchNear() impl.Stretch {
	m := s.m
	if len(m.board.Pieces) == 0 || often(s.chance, 10) {
		return impl.Stretch{From: m.number(m.una() + s.chance.Int63n(300)), To: m.number(m.una() + s.chance.Int63n(300))}
	}
	from := m.board.Pieces[s.chance.Intn(len(m.board.Pieces))].From
	to := m.board.Pieces[s.chance.Intn(len(m.board.Pieces))].To
	return impl.Stretch{From: m.number(from + s.chance.Int63n(20)/19), To: m.number(to + s.chance.Int63n(20)/18)}
}

// linked is what may come from TcpSynReceived on.
func (s *tcpScript) linked() impl.Segment {
	length := int64(0)
	if often(s.chance, 45) {
		length = pick(s.chance, 1, 5, 10, 64, 100, s.chance.Int63n(200), min(s.m.windowNow(), 400), min(s.m.windowNow()+1, 400))
	}
	place := s.randomPlace(length)
	g := s.coming(s.randomFlags(), s.m.otherNumber(0)+place, s.randomAck())
	g.Data = randomBytes(s.chance, int(length))
	if often(s.chance, 40) {
		for range s.chance.Intn(4) {
			g.Sacks = append(g.Sacks, s.stretchNear())
		}
	}
	if s.m.state == 3 {
		g.Ack = pick(s.chance, g.Ack, s.m.number(1), s.m.number(1), s.m.number(1))
		if often(s.chance, 20) {
			g.Flags, g.Seq = segSyn|segAck, s.m.irs
		}
	}
	if often(s.chance, 3) {
		s.addOptions(&g)
	}
	return g
}

func (s *tcpScript) randomWait() int64 {
	next := int64(1000)
	for _, at := range s.m.timers {
		next = min(next, at-s.m.now)
	}
	return pick(s.chance, 0, 1, 39, 40, next, next, next-1, next+1, s.m.rto.Rto, 200, 1000, s.chance.Int63n(3000), s.chance.Int63n(3000), 20000, 100000)
}

func (s *tcpScript) illOp() impl.TcpOp {
	g := s.linked()
	switch s.chance.Intn(6) {
	case 0:
		g.SrcPort++
	case 1:
		g.DstPort ^= 1
	case 2:
		g.Seq += allSeqs
	case 3:
		g.Data = make([]byte, 65516-s.chance.Intn(22))
	case 4:
		return impl.TcpOp{Kind: pick[int64](s.chance, 0, -1, 10, 1<<40), N: 5}
	default:
		return impl.TcpOp{Kind: pick[int64](s.chance, 4, 8, 9), N: pick[int64](s.chance, 0, -1, 67, 65536), Wait: pick[int64](s.chance, -1, lastTime+1, 1<<62)}
	}
	return impl.TcpOp{Kind: impl.TcpDoSegment, Segment: g}
}

func (s *tcpScript) randomOp() impl.TcpOp {
	if s.m.fresh && often(s.chance, 80) {
		return impl.TcpOp{Kind: pick[int64](s.chance, impl.TcpDoConnect, impl.TcpDoListen)}
	}
	switch n := s.chance.Intn(1000); {
	case n < 620:
		if s.m.state < 3 {
			return impl.TcpOp{Kind: impl.TcpDoSegment, Segment: s.opening()}
		}
		return impl.TcpOp{Kind: impl.TcpDoSegment, Segment: s.linked()}
	case n < 740:
		size := pick(s.chance, 0, 1, 10, 20, 63, 64, 65, 128, 300, 1000, s.chance.Intn(700))
		return impl.TcpOp{Kind: impl.TcpDoWrite, Data: randomBytes(s.chance, size)}
	case n < 820:
		return impl.TcpOp{Kind: impl.TcpDoRead, N: pick[int64](s.chance, 1, 2, 10, 100, 1<<40, s.chance.Int63n(300))}
	case n < 840:
		return impl.TcpOp{Kind: impl.TcpDoShut}
	case n < 843:
		return impl.TcpOp{Kind: impl.TcpDoAbort}
	case n < 940:
		return impl.TcpOp{Kind: impl.TcpDoPass, Wait: s.randomWait()}
	case n < 970:
		return impl.TcpOp{Kind: impl.TcpDoTooBig, N: pick(s.chance, 68, 103, 104, 105, 140, s.m.size+40, s.m.size+39, 65535, 68+s.chance.Int63n(200))}
	case n < 980:
		return impl.TcpOp{Kind: pick[int64](s.chance, impl.TcpDoConnect, impl.TcpDoListen)}
	}
	return s.illOp()
}

func running(c impl.TcpConfig) func([]impl.TcpOp) ([]impl.TcpOut, int64) {
	return func(ops []impl.TcpOp) ([]impl.TcpOut, int64) { return impl.RunTcp(c, ops) }
}

func (s *tcpScript) check(t *testing.T) {
	t.Helper()
	for i, out := range runAll(t, running(s.m.c), s.ops) {
		if !sameTcpOut(out, s.want[i]) {
			t.Fatalf("%+v, operation %d, %s: %s, not %s", s.m.c, i, shortly(s.ops[i]), shortly(out), shortly(s.want[i]))
		}
	}
}

func TestTcpAsModel(t *testing.T) {
	chance := newChance()
	for range 4000 {
		s := newTcpScript(chance, randomTcpConfig(chance))
		for range 20 + chance.Intn(100) {
			s.add(s.randomOp())
		}
		s.check(t)
	}
}

// tcpNumber is a number of a configuration, and between what it must be. A Keep may be 0, too.
type tcpNumber struct {
	name        string
	least, most int64
	set         func(c *impl.TcpConfig, n int64)
}

func tcpNumbers() []tcpNumber {
	return []tcpNumber{
		{"LocalPort", 0, 65535, func(c *impl.TcpConfig, n int64) { c.LocalPort = n }},
		{"RemotePort", 0, 65535, func(c *impl.TcpConfig, n int64) { c.RemotePort = n }},
		{"Iss", 0, 4294967295, func(c *impl.TcpConfig, n int64) { c.Iss = n }},
		{"SendSize", 1, 262144, func(c *impl.TcpConfig, n int64) { c.SendSize = n }},
		{"RecvSize", 1, 262144, func(c *impl.TcpConfig, n int64) { c.RecvSize = n }},
		{"Mss", 64, 65495, func(c *impl.TcpConfig, n int64) { c.Mss = n }},
		{"Keep", 1000, 1000000000, func(c *impl.TcpConfig, n int64) { c.Keep = n }},
	}
}

func checkRunTcpCode(t *testing.T, what string, c impl.TcpConfig, ops int, want int64) {
	t.Helper()
	outs, code := impl.RunTcp(c, make([]impl.TcpOp, ops))
	if code != want || code != impl.OK && len(outs) != 0 || code == impl.OK && len(outs) != ops {
		t.Errorf("%s, %d operations: %d answers, %d, not %d", what, ops, len(outs), code, want)
	}
}

func TestTcpAsksItsConfiguration(t *testing.T) {
	for _, number := range tcpNumbers() {
		for _, n := range aboutEnds(number.least, number.most, 0) {
			c := plainEnd()
			number.set(&c, n)
			valid := n >= number.least && n <= number.most || number.name == "Keep" && n == 0
			what := fmt.Sprintf("%s %d", number.name, n)
			checkRunTcpCode(t, what, c, 1, codeFor(valid))
			checkRunTcpCode(t, what, c, 2001, max(codeFor(valid), impl.ErrCount*oneIf(valid)))
		}
	}
	for _, ops := range []int{0, 1, 1999, 2000} {
		checkRunTcpCode(t, "a plain end", plainEnd(), ops, impl.OK)
	}
	checkRunTcpCode(t, "a plain end", plainEnd(), 2001, impl.ErrCount)
	checkRunTcpCode(t, "no end", impl.TcpConfig{}, 0, impl.ErrForm)
}

// inStates are the ways into the states, each by its number; the other end has an Iss of 500.
func inStates() [][]string {
	linked := []string{"connect", "come SA 500 101 2000"}
	shut := following(linked, "shut")
	closed := following(linked, "come FA 501 101 2000")
	return [][]string{
		impl.TcpClosed:      nil,
		impl.TcpListen:      {"listen"},
		impl.TcpSynSent:     {"connect"},
		impl.TcpSynReceived: {"listen", "come S 500 0 2000"},
		impl.TcpEstablished: linked,
		impl.TcpFinWait1:    shut,
		impl.TcpFinWait2:    following(shut, "come A 501 102 2000"),
		impl.TcpCloseWait:   closed,
		impl.TcpClosing:     following(shut, "come FA 501 101 2000"),
		impl.TcpLastAck:     following(closed, "shut"),
		impl.TcpTimeWait:    following(shut, "come FA 501 102 2000"),
	}
}

// tcpPlaces are how an end stands in a linked state of inStates: sequence numbers, and the window.
type tcpPlaces struct {
	una, nxt, wanted, window int64
}

func linkedPlaces() map[int]tcpPlaces {
	return map[int]tcpPlaces{
		impl.TcpSynReceived: {100, 101, 501, 1000},
		impl.TcpEstablished: {101, 101, 501, 1000},
		impl.TcpFinWait1:    {101, 102, 501, 1000},
		impl.TcpFinWait2:    {102, 102, 501, 1000},
		impl.TcpCloseWait:   {101, 101, 502, 999},
		impl.TcpClosing:     {101, 102, 502, 999},
		impl.TcpLastAck:     {101, 102, 502, 999},
		impl.TcpTimeWait:    {102, 102, 502, 999},
	}
}

func (p tcpPlaces) bare() string { return fmt.Sprintf(": A %d %d %d", p.nxt, p.wanted, p.window) }

// inEach asks for the same operation in each of the states.
func inEach(t *testing.T, c impl.TcpConfig, op string, told ...string) {
	t.Helper()
	if len(told) != len(inStates()) {
		t.Fatalf("%s: %d states", op, len(told))
	}
	for state, ahead := range inStates() {
		checkTcp(t, c, following(ahead, "pass 0 => state="+fmt.Sprint(state), op+" => "+told[state])...)
	}
}

func TestTcpOperationsInEachState(t *testing.T) {
	refused := "code=13 "
	c := plainEnd()
	inEach(t, c, "connect", "state=2 cwnd=400 flight=1 : S 100 0 1000 mss 100 scale 0 sackok",
		refused+"state=1", refused+"state=2", refused+"state=3", refused+"state=4", refused+"state=5",
		refused+"state=6", refused+"state=7", refused+"state=8", refused+"state=9", refused+"state=10")
	inEach(t, c, "listen", "state=1 cwnd=0 flight=0",
		refused+"state=1", refused+"state=2", refused+"state=3", refused+"state=4", refused+"state=5",
		refused+"state=6", refused+"state=7", refused+"state=8", refused+"state=9", refused+"state=10")
	inEach(t, c, "write 3", refused+"unsent=0", "took=3 state=1 unsent=3 cwnd=0 flight=0", "took=3 state=2 unsent=3 flight=1", "took=3 state=3 unsent=3 flight=1",
		"took=3 state=4 unsent=3 flight=3 : PA 101 501 1000 *3", refused+"unsent=0 flight=1", refused+"flight=0",
		"took=3 state=7 flight=3 : PA 101 502 999 *3", refused, refused, refused)
	inEach(t, c, "write 0", refused, "state=1", "state=2", "state=3", "state=4", refused, refused, "state=7", refused, refused, refused)
	inEach(t, c, "read 1", refused, "code=21", "code=21", "code=21", "code=21", "code=21", "code=21", "code=17", "code=17", "code=17", "code=17")
	inEach(t, c, "shut", refused+"state=0", "state=0", "state=0 cwnd=0 flight=0", "state=3", "state=5 flight=1 : FA 101 501 1000", refused+"state=5",
		refused+"state=6", "state=9 flight=1 : FA 101 502 999", refused+"state=8", refused+"state=9", refused+"state=10")
	inEach(t, c, "abort", refused+"state=0", "state=0", "state=0 cwnd=0 flight=0", "state=0 flight=0 : RA 101 501 0", "state=0 cwnd=0 : RA 101 501 0",
		"state=0 : RA 102 501 0", "state=0 : RA 102 501 0", "state=0 : RA 101 502 0", "state=0 : RA 102 502 0", "state=0 : RA 102 502 0", "state=0")
	inEach(t, c, "pass 0", "state=0", "state=1", "state=2", "state=3", "state=4", "state=5", "state=6", "state=7", "state=8", "state=9", "state=10")
	inEach(t, c, "toobig 139", refused, refused, refused, refused, "state=4 cwnd=400", "state=5 : FA 101 501 1000", "state=6", "state=7",
		"state=8 : FA 101 502 999", "state=9 : FA 101 502 999", refused+"state=10")
}

func TestTcpSecondTimes(t *testing.T) {
	for _, first := range []string{"connect", "listen"} {
		for _, end := range []string{"abort", "shut"} {
			checkTcp(t, plainEnd(), first, "connect => code=13", "listen => code=13", end+" => state=0", "connect => code=13", "listen => code=13", end+" => code=13")
		}
	}
	checkTcp(t, plainEnd(), "listen", "come S 500 0 2000", "shut => state=3", "shut => code=13 state=3", "write 1 => code=13", "write 0 => code=13",
		"come A 501 101 2000 => state=5 : FA 101 501 1000", "shut => code=13 state=5")
}

func TestTcpIllOperations(t *testing.T) {
	ill := []impl.TcpOp{{}, {Kind: -1}, {Kind: 10}, {Kind: 1 << 62}}
	for _, n := range aboutEnds(0) {
		if n < 1 {
			ill = append(ill, impl.TcpOp{Kind: impl.TcpDoRead, N: n})
		}
	}
	for _, n := range aboutEnds(0, lastTime) {
		if n < 0 || n > lastTime {
			ill = append(ill, impl.TcpOp{Kind: impl.TcpDoPass, Wait: n})
		}
	}
	for _, n := range aboutEnds(68, 65535) {
		if n < 68 || n > 65535 {
			ill = append(ill, impl.TcpOp{Kind: impl.TcpDoTooBig, N: n})
		}
	}
	ill = append(ill, impl.TcpOp{Kind: impl.TcpDoWrite, Data: make([]byte, mostWritten+1)}, impl.TcpOp{Kind: impl.TcpDoSegment})
	for _, spoilt := range illSegments() {
		ill = append(ill, impl.TcpOp{Kind: impl.TcpDoSegment, Segment: spoilt})
	}
	for state, ahead := range inStates() {
		s := &tcpText{c: plainEnd()}
		for _, line := range ahead {
			s.ops = append(s.ops, s.operation(t, line))
		}
		told := impl.TcpOut{}
		if state > 0 {
			told = runAll(t, running(s.c), s.ops)[len(ahead)-1]
		}
		told.Code, told.Sent = impl.ErrForm, nil
		outs := runAll(t, running(s.c), append(s.ops, ill...))
		for i, out := range outs[len(ahead):] {
			if !sameTcpOut(out, told) {
				t.Errorf("state %d, %s: %s", state, shortly(ill[i]), shortly(out))
			}
		}
	}
}

// illSegments are not valid, too long, or not of this stream.
func illSegments() []impl.Segment {
	good := impl.Segment{SrcPort: 80, DstPort: 1000, Seq: 501, Ack: 101, Flags: segAck}
	list := []impl.Segment{good, good, good, good, good, good, good, good, good, good, good}
	list[0].SrcPort = 81
	list[1].DstPort = 999
	list[2].SrcPort, list[2].DstPort = 1000, 80
	list[3].Seq = allSeqs
	list[4].Ack = -1
	list[5].Flags = 64 + segRst
	list[6].Window = 65536
	list[7].Scale = 1
	list[8].Sacks = make([]impl.Stretch, 4)
	list[9].Data = make([]byte, 65496)
	list[10].Mss, list[10].Data = 1, make([]byte, 65492)
	return list
}

// A segment of just as many bytes as are taken, and of one more.
func TestTcpLongestSegments(t *testing.T) {
	c := endWith(func(c *impl.TcpConfig) { c.RecvSize = 65535 })
	linked := []string{"connect", "come SA 500 101 2000"}
	checkTcp(t, c, following(linked, "come A 501 101 2000 *65495 => unread=65495", "pass 40 => : A 101 65996 40")...)
	checkTcp(t, c, following(linked, "come A 501 101 2000 *65496 => code=1 unread=0")...)
	checkTcp(t, c, following(linked, "come A 501 101 2000 mss 1 *65491 => unread=65491")...)
	checkTcp(t, c, following(linked, "come A 501 101 2000 mss 1 *65492 => code=1")...)
}

func TestTcpOpens(t *testing.T) {
	c := plainEnd()
	checkTcp(t, c, "connect => state=2 cwnd=400 flight=1 unsent=0 : S 100 0 1000 mss 100 scale 0 sackok",
		"pass 150 => state=2", "come SA 500 101 2000 mss 80 sackok => state=4 cwnd=320 flight=0 : A 101 501 1000", "pass 100000 => state=4")
	checkTcp(t, c, "listen => state=1 cwnd=0 flight=0", "come S 500 0 2000 => state=3 cwnd=400 flight=1 : SA 100 501 1000 mss 100",
		"come A 501 101 2000 => state=4 cwnd=400 flight=0", "pass 100000 => state=4")
	checkTcp(t, c, "listen", "come S 500 0 2000 mss 80 scale 3 sackok => state=3 : SA 100 501 1000 mss 100 scale 0 sackok",
		"come A 501 101 2000 => state=4 cwnd=320")
	checkTcp(t, c, "listen", "come S 500 0 2000 scale 3 => : SA 100 501 1000 mss 100 scale 0")
	checkTcp(t, c, "listen", "come S 500 0 2000 sackok => : SA 100 501 1000 mss 100 sackok")
	// What a listening end is told beside the SYN it does not take.
	checkTcp(t, c, "listen", "come SFPU 500 7 2000 *9 => state=3 unread=0 : SA 100 501 1000 mss 100", "come A 501 101 2000 *9 => state=4 unread=9")
	// Bytes and a FIN with the acknowledgement.
	checkTcp(t, c, "listen", "come S 500 0 2000", "come A 501 101 2000 *5 => state=4 unread=5", "pass 40 => : A 101 506 995")
	checkTcp(t, c, "listen", "come S 500 0 2000", "come FA 501 101 2000 *5 => state=7 unread=5 : A 101 507 994")
	// What has been written and shut ahead of being open.
	checkTcp(t, c, "listen", "write 5 => took=5 unsent=5", "come S 500 0 2000", "write 10 => took=10 unsent=15", "shut => state=3",
		"come A 501 101 2000 => state=5 flight=16 unsent=15 : FPA 101 501 1000 *15")
	checkTcp(t, c, "connect", "write 150 => took=150 unsent=150 flight=1", "come SA 500 101 2000 => flight=100 unsent=150 : A 101 501 1000 *100")
	checkTcp(t, c, "connect", "write 1001 => took=1000 unsent=1000", "write 1 => code=18 unsent=1000", "write 0 => unsent=1000", "come SA 500 101 50 => : A 101 501 1000 *50",
		"shut => state=5")
}

func TestTcpOpensAtOnce(t *testing.T) {
	c := plainEnd()
	ahead := []string{"connect", "pass 300", "come S 500 0 50 scale 1 => state=3 flight=1 : SA 100 501 1000 mss 100 scale 0"}
	// Neither SYN has been sent but twice, so that no round trip is measured; resend is on from the second one on.
	checkTcp(t, c, following(ahead, "pass 999", "pass 1 => state=3 flight=1 : SA 100 501 1000 mss 100 scale 0")...)
	// The window of the SYN that answers is not shifted, that of an acknowledgement is.
	checkTcp(t, c, following(ahead, "come SA 500 101 50 scale 1 => state=4 flight=0", "write 200 => took=200 : A 101 501 1000 *50", "come A 501 151 50 => : A 151 501 1000 *100")...)
	checkTcp(t, c, following(ahead, "come A 501 101 50 => state=4", "write 200 => took=200 : A 101 501 1000 *100")...)
	checkTcp(t, c, following(ahead, "come SFA 500 101 50 *3 => state=7 unread=3 : A 101 505 996")...)
	checkTcp(t, c, following(ahead, "shut", "come SA 500 101 2000 => state=5 : FA 101 501 1000")...)
	// The same without its FlagAck, from another place, and with a wrong Ack.
	checkTcp(t, c, following(ahead, "come S 500 101 50 => state=3 : A 101 501 1000", "come SA 499 101 50 => state=3 : A 101 501 1000",
		"come SA 501 101 50 => state=3 : A 101 501 1000", "come SA 500 100 50 => state=3 : R 100 0 0", "come SA 500 102 50 => state=3 : R 102 0 0",
		"come SAU 500 101 50 => state=3 : A 101 501 1000", "come SRA 500 101 50 => state=0", "read 1 => code=16")...)
}

// A SYN of the other end that comes once more is challenged, in whatever state.
func TestTcpSynAgain(t *testing.T) {
	for state, p := range linkedPlaces() {
		checkTcp(t, plainEnd(), following(inStates()[state], "come S 500 0 2000 => state="+fmt.Sprint(state)+" "+p.bare())...)
	}
}

func TestTcpRefuses(t *testing.T) {
	c := plainEnd()
	for _, ahead := range [][]string{nil, {"listen", "shut"}, {"connect", "come SA 500 101 2000", "come R 501 0 0"}} {
		checkTcp(t, c, following(ahead, "come S 500 0 10 => state=0 : RA 0 501 0", "come SF 500 7 10 *3 => : RA 0 505 0", "come - 500 7 10 => : RA 0 500 0",
			"come F 500 7 10 => : RA 0 501 0", "come PU 4294967295 0 10 *2 => : RA 0 1 0", "come A 5 9 1 => : R 9 0 0", "come SFPAU 5 4294967295 1 *7 => : R 4294967295 0 0",
			"come R 5 9 1 =>", "come RA 5 9 1 =>", "come SFRPAU 5 9 1 => state=0")...)
	}
	checkTcp(t, c, "listen", "come R 5 9 1 => state=1", "come SR 5 9 1 => state=1", "come RA 5 9 1 => state=1", "come A 5 9 1 => state=1 : R 9 0 0",
		"come SA 5 9 1 => state=1 : R 9 0 0", "come - 5 9 1 => state=1", "come FPU 5 9 1 *4 => state=1")
	checkTcp(t, c, "connect", "come SA 500 102 10 => state=2 : R 102 0 0", "come A 500 100 10 => state=2 : R 100 0 0", "come FAU 5 99 10 => state=2 : R 99 0 0",
		"come RA 500 102 10 => state=2", "come R 500 101 10 => state=2", "come SR 500 0 10 => state=2", "come A 500 101 10 => state=2", "come - 500 0 10 => state=2",
		"come F 500 0 10 *4 => state=2 unread=0", "come SRA 500 101 10 => state=0", "write 1 => code=16", "read 1 => code=16", "write 0 => code=16", "shut => code=13")
	checkTcp(t, c, "connect", "come RA 500 101 10 => state=0 unsent=0", "read 1 => code=16")
	checkTcp(t, c, "connect", "come SFPAU 500 101 2000 *9", "pass 100 => state=4 unread=0")
}

// 17.4, numbers 5 and 7 to 12, in each linked state.
func TestTcpSegmentsInEachState(t *testing.T) {
	for state, p := range linkedPlaces() {
		stays := fmt.Sprintf(" => state=%d ", state)
		come := func(flags string, seq, ack int64, bytes string) string {
			return fmt.Sprintf("come %s %d %d 2000%s", flags, (seq+allSeqs)%allSeqs, (ack+allSeqs)%allSeqs, bytes)
		}
		ask := func(lines ...string) {
			t.Helper()
			checkTcp(t, plainEnd(), following(inStates()[state], lines...)...)
		}
		end := p.wanted + p.window
		reset, beside, none := "state=0", stays[4:]+p.bare(), stays[4:]
		if state == impl.TcpTimeWait {
			reset, beside = none, none
		}
		ask(come("AU", p.wanted, p.nxt, "")+stays+p.bare(), come("SFRPAU", 5, 6, " *3")+stays+p.bare(), come("U", end+9, 0, "")+stays+p.bare())
		ask(come("R", p.wanted, 0, "") + " => " + reset)
		ask(come("RA", p.wanted, p.nxt+9, "") + " => " + reset)
		ask(come("R", p.wanted+1, 0, "") + " => " + beside)
		ask(come("R", end-1, 0, "")+" => "+beside, come("R", end, 0, "")+stays, come("R", p.wanted-1, 0, "")+stays, come("SFRA", end, 0, " *3")+stays)
		ask(come("R", p.wanted-1, 0, " *2") + " => " + beside)
		ask(come("R", p.wanted, 0, " *2") + " => " + reset)
		ask(come("S", p.wanted, 0, "")+stays+p.bare(), come("SFA", end-1, p.nxt, " *3")+stays+p.bare())
		ask(come("-", p.wanted, 0, "")+stays, come("FP", p.wanted, p.nxt, " *3")+stays, "read 1 => code="+nothingRead(state))
		ask(come("A", end, p.nxt, "")+stays+p.bare(), come("A", p.wanted-1, p.nxt, "")+stays+p.bare(), come("A", end, p.nxt, " *3")+stays+p.bare(),
			come("FA", p.wanted-4, p.nxt, " *3")+stays+p.bare(), come("A", p.wanted-1, p.nxt, " *2000")+stays+p.bare(), come("-", end, 0, "")+stays+p.bare())
		if state == impl.TcpSynReceived {
			for _, ack := range []int64{p.una, p.una - 1, p.una - 2000, p.nxt + 1, p.nxt + halfway} {
				ask(come("A", p.wanted, ack, "") + stays + fmt.Sprintf(": R %d 0 0", (ack+allSeqs)%allSeqs))
			}
			continue
		}
		ask(come("A", p.wanted, p.nxt+1, "")+stays+p.bare(), come("A", p.wanted, p.una-2001, "")+stays+p.bare(), come("A", p.wanted, p.una-halfway, "")+stays+p.bare())
		ask(come("A", p.wanted, p.una, "")+stays, come("A", p.wanted, p.una-1, "")+stays, come("A", p.wanted, p.una-2000, "")+stays)
		if p.una == p.nxt {
			ask(come("A", end-1, p.nxt, "") + stays)
		}
	}
}

func nothingRead(state int) string {
	if state >= impl.TcpCloseWait {
		return "17"
	}
	return "21"
}

// With no window a segment without bytes is within it at the wanted place alone, and one with bytes nowhere.
func TestTcpNoWindow(t *testing.T) {
	c := endWith(func(c *impl.TcpConfig) { c.RecvSize = 5 })
	full := []string{"connect", "come SA 500 101 2000", "come A 501 101 2000 *5", "pass 40 => unread=5 : A 101 506 0"}
	bare := " => state=4 : A 101 506 0"
	checkTcp(t, c, following(full, "come A 506 101 2000 => state=4", "come A 507 101 2000"+bare, "come A 505 101 2000"+bare, "come A 506 101 2000 *1"+bare,
		"come FA 506 101 2000"+bare, "come A 505 101 2000 *2"+bare, "come R 507 101 0 =>", "come R 506 101 0 *1 => state=4", "write 9 => took=9 : PA 101 506 0 *9",
		"come A 506 110 2000 => flight=0", "come R 506 0 0 => state=0 unread=5", "read 9 => data=5", "read 9 => code=14")...)
	// With a window of one byte.
	checkTcp(t, c, following(full[:2], "come A 501 101 2000 *4", "pass 40 => : A 101 505 1", "come A 505 101 2000 =>", "come A 506 101 2000 => : A 101 505 1",
		"come A 505 101 2000 *2 => unread=5", "read 2 => data=2", "pass 40 => : A 101 506 0")...)
	// A segment that begins ahead of the window and ends behind it is not within it.
	checkTcp(t, c, following(full[:2], "come A 500 101 2000 *7 => unread=0 : A 101 501 5", "come A 500 101 2000 *6 => unread=5", "pass 40 => : A 101 506 0")...)
}

func TestTcpResets(t *testing.T) {
	c := plainEnd()
	dead := []string{"read 100 => data=5", "read 1 => code=14", "write 1 => code=14", "shut => code=13", "abort => code=13", "connect => code=13", "pass 1000000 =>"}
	linked := following(inStates()[impl.TcpEstablished], "come A 501 101 2000 *5", "write 5")
	checkTcp(t, c, following(following(linked, "come R 506 0 0 => state=0 cwnd=0 flight=0 unsent=0 unread=5"), dead...)...)
	checkTcp(t, c, following(following(linked, "shut", "come R 506 0 0 => state=0 unread=5"), dead...)...)
	checkTcp(t, c, "listen", "come S 500 0 2000", "write 1", "come R 501 0 0 => state=0 unsent=0", "read 1 => code=16", "write 1 => code=16")
	// Behind a FIN that was taken a reading tells the end, a writing what it died of.
	checkTcp(t, c, following(inStates()[impl.TcpCloseWait], "come R 502 0 0 => state=0", "read 1 => code=17", "write 1 => code=14")...)
}

func TestTcpChallenges(t *testing.T) {
	linked := inStates()[impl.TcpEstablished]
	sent := "come AU 501 101 2000 => : A 101 501 1000"
	unsent := "come AU 501 101 2000 =>"
	ten := strings.Split(strings.Repeat(sent+"\n", 9)+sent, "\n")
	// The first row begins at 0, whenever its first one is.
	checkTcp(t, plainEnd(), following(following(linked, ten...), unsent, unsent, "pass 999", unsent, "pass 1", sent)...)
	checkTcp(t, plainEnd(), following(following(following(linked, "pass 500"), ten...), unsent, "pass 499", unsent, "pass 1", sent)...)
	// A row begins with its first one, not when the one ahead has ended.
	late := following(following(linked, "pass 1500"), ten...)
	checkTcp(t, plainEnd(), following(late, unsent, "pass 999", unsent, "pass 1", sent, "pass 999", sent, "pass 1", sent)...)
	again := following(following(late, "pass 1000"), ten...)
	checkTcp(t, plainEnd(), following(again, unsent, "pass 999", unsent, "pass 1", sent)...)
	// All kinds of challenges are of one row; other acknowledgements are of none.
	checkTcp(t, plainEnd(), following(following(linked, ten[:6]...), "come S 501 0 0 => : A 101 501 1000", "come A 9999 101 0 => : A 101 501 1000",
		"come R 502 0 0 => : A 101 501 1000", "come A 501 102 0 => : A 101 501 1000", "come S 501 0 0 =>", "come A 9999 101 0 =>", "come R 502 0 0 =>", "come A 501 102 0 =>",
		"come A 502 101 2000 *1 => : A 101 501 1000", "come FA 9999 0 0 =>")...)
}

func TestTcpAcknowledgesLate(t *testing.T) {
	linked := inStates()[impl.TcpEstablished]
	c := plainEnd()
	checkTcp(t, c, following(linked, "come A 501 101 2000 *5 => unread=5", "pass 39 =>", "pass 1 => : A 101 506 995", "pass 100 =>",
		"come A 506 101 2000 *5 =>", "pass 20 =>", "come PA 511 101 2000 *5 => unread=15 : A 101 516 985", "pass 100 =>",
		"come A 516 101 2000 *1 =>", "pass 10, write 4 => took=4 : PA 101 517 984 *4", "pass 40 =>", "come A 517 105 2000 *1 =>", "pass 39 =>", "pass 1 => : A 105 518 983")...)
	// A challenge owes nothing more, either.
	checkTcp(t, c, following(linked, "come A 501 101 2000 *5 =>", "come AU 501 101 2000 => : A 101 506 995", "pass 50 =>", "come A 506 101 2000 *5 =>", "pass 40 => : A 101 511 990")...)
	// Out of order, what is there already, and what closes a gap: at once.
	checkTcp(t, c, following(linked, "come A 506 101 2000 *5 => unread=0 : A 101 501 1000", "come A 506 101 2000 *5 => : A 101 501 1000",
		"come A 513 101 2000 *2 => : A 101 501 1000", "come A 501 101 2000 *5 => unread=10 : A 101 511 990", "come A 511 101 2000 *2 => unread=14 : A 101 515 986",
		"come A 515 101 2000 *2 => unread=16", "pass 40 => : A 101 517 984", "come A 500 101 2000 *20 => unread=19", "pass 40 => : A 101 520 981")...)
	// With SackOK of both an acknowledgement tells what is held, a segment with bytes does not.
	told := []string{"connect", "come SA 500 101 2000 sackok"}
	checkTcp(t, c, following(told, "come A 506 101 2000 *5 => : A 101 501 1000 sack 506-511", "come A 513 101 2000 *2 => : A 101 501 1000 sack 513-515 sack 506-511",
		"come A 520 101 2000 *2 => : A 101 501 1000 sack 520-522 sack 513-515 sack 506-511", "come A 530 101 2000 *1 => : A 101 501 1000 sack 530-531 sack 520-522 sack 513-515",
		"write 5 => took=5 : PA 101 501 1000 *5", "come AU 501 101 2000 => : A 106 501 1000 sack 530-531 sack 520-522 sack 513-515",
		"come A 501 106 2000 *5 => : A 106 511 990 sack 530-531 sack 520-522 sack 513-515", "shut => : FA 106 511 990 sack 530-531 sack 520-522 sack 513-515")...)
	// Without the other end's it never is.
	checkTcp(t, c, following(linked, "come A 506 101 2000 sackok *5 => code=0 : A 101 501 1000")...)
}

func TestTcpFin(t *testing.T) {
	linked := inStates()[impl.TcpEstablished]
	c := plainEnd()
	checkTcp(t, c, following(linked, "come FA 501 101 2000 *10 => state=7 unread=10 : A 101 512 989", "read 100 => data=10", "read 1 => code=17", "come A 512 101 2000 *3 => unread=0",
		"pass 1000 => state=7")...)
	// Ahead of data that lack: told nothing of until they are there.
	checkTcp(t, c, following(linked, "come FA 511 101 2000 => state=4", "come A 506 101 2000 *5 => state=4 : A 101 501 1000", "come A 501 101 2000 *5 => state=7 unread=10 : A 101 512 989",
		"come FA 511 101 2000 => : A 101 512 989", "read 100 => data=10", "read 1 => code=17")...)
	// Of two the first one counts.
	checkTcp(t, c, following(linked, "come FA 511 101 2000", "come FA 501 101 2000 *5 => state=4 unread=5", "come FA 507 101 2000 => state=4",
		"come A 506 101 2000 *5 => state=7 unread=10 : A 101 512 989")...)
	// Bytes behind the FIN, held or all at once.
	checkTcp(t, c, following(linked, "come FA 511 101 2000", "come A 501 101 2000 *20 => state=7 unread=20 : A 101 522 979")...)
	checkTcp(t, c, following(linked, "come A 501 101 2000 *5", "come FA 501 101 2000 *4 => state=4 : A 101 506 995", "come A 510 101 2000 *2 => : A 101 506 995",
		"come FA 506 101 2000 *4 => state=7 unread=11 : A 101 513 988")...)
	// Just at the end of the room, and behind it.
	small := endWith(func(c *impl.TcpConfig) { c.RecvSize = 10 })
	checkTcp(t, small, following(linked, "come FA 501 101 2000 *11 => state=4 unread=10", "pass 40 => : A 101 511 0", "read 10 => data=10 : A 101 511 10", "come FA 511 101 2000 => state=7 : A 101 512 9")...)
	checkTcp(t, small, following(linked, "come FA 501 101 2000 *10 => state=7 unread=10 : A 101 512 0")...)
	checkTcp(t, small, following(linked, "come FA 509 101 2000 *2 => : A 101 501 10", "come A 501 101 2000 *8 => state=7 unread=10 : A 101 512 0")...)
	checkTcp(t, small, following(linked, "come FA 509 101 2000 *3 => : A 101 501 10", "come A 501 101 2000 *8 => state=4 unread=10 : A 101 511 0")...)
	// A full buffer takes a FIN only behind a reading: it has no place within no window.
	checkTcp(t, small, following(linked, "come A 501 101 2000 *10", "come FA 511 101 2000 => state=4 : A 101 511 0", "read 4 => data=4", "come FA 511 101 2000 => state=4 : A 101 511 0",
		"read 1 => data=1 : A 101 511 5", "come FA 511 101 2000 => state=7 : A 101 512 4")...)
	// A FIN alone makes an acknowledgement that waits go with it.
	checkTcp(t, c, following(linked, "come A 501 101 2000 *5", "come FA 506 101 2000 => state=7 : A 101 507 994", "pass 100 =>")...)
	// The bytes that go with the acknowledgement tell of the FIN, too.
	checkTcp(t, c, following(linked, "write 300 => took=300 : A 101 501 1000 *100; A 201 501 1000 *100; PA 301 501 1000 *100", "write 150 => took=150 : A 401 501 1000 *100",
		"come FA 501 501 2000 => state=7 : PA 501 502 999 *50")...)
}

func TestTcpCloses(t *testing.T) {
	c := plainEnd()
	linked := inStates()[impl.TcpEstablished]
	gone := []string{"pass 59999 => state=10", "pass 1 => state=0 cwnd=0 flight=0", "read 1 => code=17", "write 1 => code=13", "shut => code=13"}
	fin := "shut => state=5 flight=1 : FA 101 501 1000"
	// From this side.
	checkTcp(t, c, following(following(linked, fin, "come A 501 102 2000 => state=6 flight=0", "come A 501 102 2000 *5 => state=6 unread=5", "pass 40 => : A 102 506 995",
		"come FA 506 102 2000 => state=10 : A 102 507 994", "read 9 => data=5"), gone...)...)
	// The other end's FIN with the acknowledgement of the own one, and ahead of it.
	checkTcp(t, c, following(following(linked, fin, "come FA 501 102 2000 => state=10 flight=0 : A 102 502 999"), gone...)...)
	checkTcp(t, c, following(following(linked, fin, "come FA 501 101 2000 => state=8 flight=1 : A 102 502 999", "come A 502 101 2000 => state=8", "come A 502 102 2000 => state=10 flight=0"), gone...)...)
	// From the other side: it dies at once, and of nothing.
	checkTcp(t, c, following(linked, "come FA 501 101 2000 *5 => state=7 : A 101 507 994", "write 5 => took=5 : PA 101 507 994 *5", "shut => state=9 flight=6 unsent=5 : FA 106 507 994",
		"come A 507 106 2000 => state=9 flight=1 unsent=0", "come A 507 107 2000 => state=0 flight=0", "read 9 => data=5", "read 9 => code=17", "write 1 => code=13")...)
	// Behind what has been written: the FIN stands at its end.
	checkTcp(t, c, following(linked, "write 30 => took=30 : PA 101 501 1000 *30", "write 50 => took=50", "shut => state=5 flight=81 unsent=80 : FPA 131 501 1000 *50",
		"come A 501 131 2000 => state=5 flight=51", "come A 501 181 2000 => state=5 flight=1 unsent=0", "pass 100000 => state=5 : FA 181 501 1000; FA 181 501 1000; FA 181 501 1000; FA 181 501 1000; FA 181 501 1000; FA 181 501 1000; FA 181 501 1000; FA 181 501 1000",
		"come A 501 182 2000 => state=6")...)
	// While nothing is acknowledged the states stay.
	checkTcp(t, c, following(linked, "write 30", "shut => state=5 : FA 131 501 1000", "come FA 501 131 2000 => state=8 flight=1 : A 132 502 999", "come A 502 132 2000 => state=10")...)
	// Behind an aborting, or a reset, of what does not read.
	checkTcp(t, c, following(inStates()[impl.TcpFinWait2], "come R 501 0 0 => state=0", "read 1 => code=14")...)
	checkTcp(t, c, following(inStates()[impl.TcpLastAck], "abort => state=0 : RA 102 502 0", "read 1 => code=17", "write 1 => code=17")...)
	checkTcp(t, c, following(inStates()[impl.TcpTimeWait], "abort => state=0", "write 1 => code=17")...)
}

// In TcpTimeWait the other end's FIN makes it wait again, and nothing else does.
func TestTcpWaitsAgain(t *testing.T) {
	ahead := inStates()[impl.TcpTimeWait]
	fin, bare := "come FA 501 102 2000 => state=10 : A 102 502 999", " => state=10 : A 102 502 999"
	checkTcp(t, plainEnd(), following(ahead, "pass 59999 => state=10", fin, "pass 59999 => state=10", "pass 1 => state=0")...)
	checkTcp(t, plainEnd(), following(ahead, "pass 30000", "come A 501 102 2000"+bare, "come A 501 102 2000 *1"+bare, "come A 502 102 2000 =>", "come FA 502 102 2000 *3 => state=10",
		"come FRA 501 102 2000 =>", "come FAU 501 102 2000"+bare, "come SFA 502 102 2000"+bare, "come A 502 103 2000"+bare, "pass 29999 => state=10", "pass 1 => state=0")...)
	checkTcp(t, plainEnd(), following(ahead, "pass 30000", "come F 9999 102 2000"+bare, "pass 59999 => state=10", "pass 1 => state=0")...)
	// A challenge that may not be sent does not keep it from waiting again.
	ten := strings.Split(strings.Repeat("come AU 502 102 2000\n", 9)+"come AU 502 102 2000", "\n")
	checkTcp(t, plainEnd(), following(following(ahead, ten...), "pass 900", "come FA 501 102 2000 => state=10", "pass 59999 => state=10", "pass 1 => state=0")...)
}

func TestTcpWrites(t *testing.T) {
	linked := inStates()[impl.TcpEstablished]
	c := endWith(func(c *impl.TcpConfig) { c.SendSize, c.NoDelay = 150, true })
	checkTcp(t, c, following(linked, "write 0 =>", "write 150 => took=150 unsent=150 flight=150 : A 101 501 1000 *100; PA 201 501 1000 *50", "write 0 =>", "write 1 => code=18 unsent=150",
		"come A 501 102 2000 => unsent=149", "write 2 => took=1 unsent=150 flight=150 : PA 251 501 1000 *1", "write 2 => code=18", "come A 501 251 2000 => unsent=1 flight=1",
		"write 150 => took=149 unsent=150 flight=150 : A 252 501 1000 *100; PA 352 501 1000 *49", "shut => unsent=150 flight=151 : FA 401 501 1000", "write 1 => code=13", "write 0 => code=13")...)
	// As many as may be at all, and one more.
	most := endWith(func(c *impl.TcpConfig) { c.SendSize = mostWritten })
	checkTcp(t, most, following(linked, fmt.Sprintf("write %d => code=1 unsent=0", mostWritten+1), fmt.Sprintf("write %d => took=%d unsent=%d flight=400 : A 101 501 1000 *100; A 201 501 1000 *100; A 301 501 1000 *100; A 401 501 1000 *100",
		mostWritten, mostWritten, mostWritten), "write 1 => code=18")...)
	checkTcp(t, plainEnd(), fmt.Sprintf("write %d => code=1", mostWritten+1), "listen", fmt.Sprintf("write %d => took=1000 unsent=1000", mostWritten), fmt.Sprintf("write %d => code=1 unsent=1000", mostWritten+1))
}

func TestTcpReads(t *testing.T) {
	linked := inStates()[impl.TcpEstablished]
	ahead := following(linked, "come A 501 101 2000 *50", "pass 40")
	checkTcp(t, plainEnd(), following(ahead, "read 0 => code=1 unread=50", "read 1 => data=1 unread=49", "read 48 => data=48 unread=1", "read 2 => data=1 unread=0", "read 1 => code=21", "read 0 => code=1")...)
	checkTcp(t, plainEnd(), following(ahead, "read 50 => data=50 unread=0", "come A 560 101 2000 *5", "read 1 => code=21", "come A 551 101 2000 *9 => unread=14 : A 101 565 936", "read 9223372036854775807 => data=14")...)
	checkTcp(t, plainEnd(), following(ahead, "come FA 551 101 2000", "read 49 => data=49", "read 9 => data=1", "read 9 => code=17", "abort", "read 1 => code=17")...)
	checkTcp(t, plainEnd(), following(ahead, "abort => state=0 unread=50 : RA 101 551 0", "read 49 => data=49 unread=1", "read 9 => data=1", "read 9 => code=17")...)
}

// The Edge moves by just the lesser one of twice Mss and half of the buffer, and by no less.
func TestTcpEdge(t *testing.T) {
	linked := inStates()[impl.TcpEstablished]
	full := following(linked, "come A 501 101 2000 *1000", "pass 40 => : A 101 1501 0")
	// Twice Mss is 200.
	checkTcp(t, plainEnd(), following(full, "read 199 => data=199", "come AU 1501 101 0 => : A 101 1501 0", "read 1 => data=1 : A 101 1501 200", "read 200 => data=200 : A 101 1501 400",
		"read 150 => data=150", "read 150 => data=150 : A 101 1501 700")...)
	// Half of a buffer of 99 or 100 bytes is 50.
	for _, size := range []int64{99, 100} {
		c := endWith(func(c *impl.TcpConfig) { c.RecvSize = size })
		checkTcp(t, c, following(linked, fmt.Sprintf("come A 501 101 2000 *%d", size), "read 49 => data=49", fmt.Sprintf("pass 40 => : A 101 %d 0", 501+size), fmt.Sprintf("read 1 => data=1 : A 101 %d 50", 501+size))...)
	}
	one := endWith(func(c *impl.TcpConfig) { c.RecvSize = 1 })
	checkTcp(t, one, following(linked, "come A 501 101 2000 *1", "pass 40 => : A 101 502 0", "read 1 => data=1 : A 101 502 1", "come A 502 101 2000 *1", "read 1 => data=1 : A 101 503 1")...)
	// Each ordinary segment may move it.
	checkTcp(t, plainEnd(), following(linked, "come A 501 101 2000 *150", "read 150 => data=150", "pass 40 => : A 101 651 850", "come A 651 101 2000 *49", "read 49 => data=49", "pass 40 => : A 101 700 801",
		"come A 700 101 2000 *1", "write 1 => took=1 : PA 101 701 800 *1", "read 1 => data=1 : A 102 701 1000")...)
	// In other states a reading sends nothing, and behind the FIN the Edge stays.
	checkTcp(t, plainEnd(), following(linked, "come FA 501 101 2000 *900 => state=7 : A 101 1402 99", "read 900 => data=900", "come AU 1402 101 0 => : A 101 1402 99")...)
	checkTcp(t, plainEnd(), following(linked, "shut", "come A 501 101 2000 *900", "read 900 => data=900 state=5 : A 102 1401 1000", "come A 1401 102 2000 *900", "read 900 => data=900 state=6 : A 102 2301 1000")...)
}

func TestTcpOwnShift(t *testing.T) {
	rows := []struct {
		size, window, scale, shifted, first int64
	}{
		// The first Edge is 65535 behind the SYN; it moves if there is twice Mss more.
		{65534, 65534, 0, 65534, 65534}, {65535, 65535, 0, 65535, 65535}, {65536, 65535, 1, 32767, 65535}, {65734, 65535, 1, 32767, 65535}, {65735, 65535, 1, 32867, 65535},
		{131071, 65535, 1, 65535, 65535}, {131072, 65535, 2, 32768, 65535}, {262143, 65535, 2, 65535, 65535}, {262144, 65535, 3, 32768, 65535},
	}
	for _, row := range rows {
		c := endWith(func(c *impl.TcpConfig) { c.RecvSize = row.size })
		checkTcp(t, c, fmt.Sprintf("connect => : S 100 0 %d mss 100 scale %d sackok", row.window, row.scale), fmt.Sprintf("come SA 500 101 2000 scale 5 => : A 101 501 %d", row.shifted))
		checkTcp(t, c, "connect", fmt.Sprintf("come SA 500 101 2000 => : A 101 501 %d", row.first))
		checkTcp(t, c, "listen", fmt.Sprintf("come S 500 101 2000 scale 0 => : SA 100 501 %d mss 100 scale %d", row.window, row.scale), fmt.Sprintf("come AU 501 101 2000 => : A 101 501 %d", row.shifted))
		checkTcp(t, c, "listen", fmt.Sprintf("come S 500 101 2000 => : SA 100 501 %d mss 100", row.window), fmt.Sprintf("come AU 501 101 2000 => : A 101 501 %d", row.first))
	}
	// What may come goes by the Edge, not by the window that has room in a segment.
	c := endWith(func(c *impl.TcpConfig) { c.RecvSize = 131072 })
	checkTcp(t, c, "connect", "come SA 500 101 2000 => : A 101 501 65535", "come A 66036 101 2000 *1 => : A 101 501 65535", "come A 131572 101 2000 *1 => : A 101 501 65535",
		"come R 131573 101 2000 =>", "come R 131572 101 2000 => : A 101 501 65535")
	// A window of which the shift leaves something out: 131071 - 65535 - 65535.
	c.RecvSize = 131071
	checkTcp(t, c, "connect", "come SA 500 101 2000 scale 0 => : A 101 501 65535", "come A 501 101 2000 *65495", "come A 65996 101 2000 *65495 => : A 101 131491 40")
}

func TestTcpSegmentSize(t *testing.T) {
	rows := []struct {
		own        int64
		told       string
		size, cwnd int64
	}{
		{1000, "", 536, 2144}, {1000, " mss 1", 64, 256}, {1000, " mss 63", 64, 256}, {1000, " mss 64", 64, 256}, {1000, " mss 65", 65, 260}, {1000, " mss 999", 999, 3996},
		{1000, " mss 1000", 1000, 4000}, {1000, " mss 1001", 1000, 4000}, {1000, " mss 65535", 1000, 4000}, {64, " mss 1000", 64, 256}, {400, "", 400, 1600}, {537, "", 536, 2144},
		{1460, " mss 1460", 1460, 4380}, {65495, " mss 65535", 65495, 130990}, {65495, "", 536, 2144},
	}
	for _, row := range rows {
		c := endWith(func(c *impl.TcpConfig) { c.Mss, c.SendSize = row.own, mostWritten })
		told := fmt.Sprintf(" => flight=%d cwnd=%d took=%d : A 101 501 1000 *%d", row.size, row.cwnd, row.size+row.size/2, row.size)
		write := fmt.Sprintf("write %d", row.size+row.size/2)
		checkTcp(t, c, "connect", "come SA 500 101 65535"+row.told, write+told)
		checkTcp(t, c, "listen", "come S 500 0 65535"+row.told, "come A 501 101 65535", write+told)
	}
}

func TestTcpSendWindow(t *testing.T) {
	c := plainEnd()
	// The window of a SYN is not shifted, and that of an acknowledgement only if both have told a scale.
	checkTcp(t, c, "connect", "come SA 500 101 10 scale 3", "write 500 => took=500 : A 101 501 1000 *10", "come A 501 111 10 => : A 111 501 1000 *80", "come A 501 191 14 => : A 191 501 1000 *100")
	checkTcp(t, c, "connect", "come SA 500 101 10", "write 500 => took=500 : A 101 501 1000 *10", "come A 501 111 10 => : A 111 501 1000 *10", "come A 501 121 10 scale 3 => : A 121 501 1000 *10")
	checkTcp(t, c, "listen", "come S 500 0 10 scale 2", "write 500", "come A 501 101 10 => : A 101 501 1000 *40")
	// As much as may be: 65535 shifted by 14.
	wide := endWith(func(c *impl.TcpConfig) { c.SendSize, c.Mss = mostWritten, 65495 })
	checkTcp(t, wide, "connect", "come SA 500 101 65535 mss 65535 scale 14", fmt.Sprintf("write %d => took=%d flight=65495 : A 101 501 1000 *65495", mostWritten, mostWritten),
		"come A 501 101 65535 => flight=130990 : A 65596 501 1000 *65495", "come A 501 131091 65535 => flight=130990 cwnd=196485 : A 131091 501 1000 *65495; A 196586 501 1000 *65495")
	linked := inStates()[impl.TcpEstablished]
	// The window of what is behind the latest place counts, that of what is ahead of it does not.
	checkTcp(t, c, following(linked, "come A 511 101 150 *1 => : A 101 501 1000", "come A 501 101 2000 *5 => : A 101 506 995", "write 400 => took=400 : A 101 506 995 *100", "come A 506 201 100 => flight=100 : A 201 506 995 *100",
		"come A 512 301 200 => : A 301 506 995 *100; PA 401 506 995 *100", "come A 506 301 0 =>", "write 100 => took=100 flight=200", "come A 512 501 100 => : PA 501 506 995 *100")...)
	// An acknowledgement of what was acknowledged already tells no window.
	checkTcp(t, c, following(linked, "write 100", "come A 501 201 150", "come A 501 200 2000", "write 200 => took=200 : A 201 501 1000 *100")...)
	// A window that gets smaller than what is on the way.
	checkTcp(t, c, following(linked, "write 300 => took=300 : A 101 501 1000 *100; A 201 501 1000 *100; PA 301 501 1000 *100", "write 300 => took=300 : A 401 501 1000 *100",
		"come A 501 201 100 => flight=300", "come A 501 301 299 => flight=200", "come A 501 401 300 => flight=300 : A 501 501 1000 *100; PA 601 501 1000 *100")...)
	// Una less the largest window that ever was is taken, though the window is small by then.
	checkTcp(t, c, following(linked, "come A 501 101 9", "come A 501 101 2001", "come A 501 101 9", "come A 501 4294965396 9 =>", "come A 501 4294965395 9 => : A 101 501 1000")...)
}

func TestTcpStretches(t *testing.T) {
	ahead := []string{"connect", "come SA 500 101 2000 sackok", "write 400 => took=400 : A 101 501 1000 *100; A 201 501 1000 *100; A 301 501 1000 *100; PA 401 501 1000 *100"}
	ask := func(lines ...string) {
		t.Helper()
		checkTcp(t, plainEnd(), following(ahead, lines...)...)
	}
	again := "flight=400 cwnd=200 : A 101 501 1000 *100"
	ask("come A 501 101 2000 sack 201-501 => "+again, "come A 501 101 2000 sack 201-501 => flight=400 cwnd=200")
	ask("come A 501 101 2000 sack 401-501 sack 201-301 => cwnd=400", "come A 501 101 2000 sack 301-401 => "+again)
	ask("come A 501 101 2000 sack 201-301 sack 301-401 sack 401-501 => " + again)
	// These do not count: empty, turned round, beyond what was sent, ahead of what is acknowledged, less than a piece.
	for _, none := range []string{"201-201", "501-201", "201-502", "100-501", "0-501", "4294967295-501", "202-501", "201-500", "2147483749-501", "201-2147483749"} {
		ask("come A 501 101 2000 sack "+none+" => cwnd=400 flight=400", "come A 501 101 2000 sack "+none+" sack 0-0 sack 201-501 => "+again)
	}
	// From what is acknowledged now on, by places as they were ahead of that.
	ask("come A 501 201 2000 sack 301-501 => cwnd=500 flight=300", "come A 501 201 2000 sack 201-501 => cwnd=500 flight=300", "pass 200 => cwnd=100 flight=300 : A 201 501 1000 *100")
	ask("come A 501 202 2000 sack 201-501 => cwnd=500 flight=299", "come A 501 202 2000 sack 202-501 => cwnd=500")
	// A piece that is lost and told to be there is not sent again; what was sent twice is not lost again.
	ask("come A 501 101 2000 sack 201-501", "pass 199 =>", "pass 1 => cwnd=100 : A 101 501 1000 *100", "come A 501 101 2000 sack 201-501 => cwnd=100", "pass 400 => : A 101 501 1000 *100")
	// Without SackOK they are not looked at.
	checkTcp(t, plainEnd(), following(inStates()[impl.TcpEstablished], "write 400", "come A 501 101 2000 sack 201-501 => cwnd=400", "come A 501 101 2000 sack 201-501 => cwnd=400")...)
	// Doubles count for nothing with SackOK: nothing new is sent for them.
	more := []string{"connect", "come SA 500 101 2000 sackok", "write 1000", "come A 501 101 2000 => flight=400", "come A 501 101 2000 => flight=400", "come A 501 101 2000 => flight=400 cwnd=400"}
	checkTcp(t, plainEnd(), following(more, "come A 501 101 2000 sack 201-301 => flight=500 : A 501 501 1000 *100", "come A 501 101 2000 sack 201-401 => flight=600 : A 601 501 1000 *100",
		"come A 501 101 2000 sack 201-501 => flight=600 cwnd=300 : A 101 501 1000 *100", "come A 501 101 2000 sack 201-601 => flight=700 cwnd=300 : A 701 501 1000 *100")...)
}

func TestTcpDoubles(t *testing.T) {
	linked := inStates()[impl.TcpEstablished]
	four := "write 1000 => took=1000 flight=400 : A 101 501 1000 *100; A 201 501 1000 *100; A 301 501 1000 *100; A 401 501 1000 *100"
	double := "come A 501 101 2000"
	two := []string{double + " => flight=500 cwnd=400 : A 501 501 1000 *100", double + " => flight=600 cwnd=400 : A 601 501 1000 *100"}
	third := double + " => flight=600 cwnd=300 : A 101 501 1000 *100"
	ask := func(lines ...string) {
		t.Helper()
		checkTcp(t, plainEnd(), following(following(following(linked, four), two...), lines...)...)
	}
	ask(third, double+" => flight=700 cwnd=300 : A 701 501 1000 *100", double+" => flight=800 : A 801 501 1000 *100",
		// Not all that was on the way then: the next one is lost, too, and waits for room; nothing grows.
		"come A 501 201 2000 => flight=700 cwnd=300", "come A 501 301 2000 => flight=600 cwnd=300", "come A 501 601 2000 => flight=300 cwnd=300 : A 601 501 1000 *100",
		// All of it.
		"come A 501 701 2000 => flight=300 cwnd=300 : A 901 501 1000 *100", "come A 501 801 2000 => flight=300 cwnd=300 : PA 1001 501 1000 *100", "come A 501 1101 2000 => flight=0 cwnd=400")
	// What is no double: with bytes, with a FIN that is not taken, with another window, of something new, an older one.
	ask("come A 501 101 2000 *5", "come FA 900 101 2000 =>", "come A 511 101 2000 *1 => : A 701 506 995")
	ask("come A 501 101 1999", "come A 501 101 1999 => flight=600 cwnd=300 : A 101 501 1000 *100")
	ask("come A 501 101 1999", "come A 501 101 2000", third)
	ask("come A 501 100 2000", "come AU 501 101 2000 => : A 701 501 1000", third)
	ask("come A 501 201 2000 => flight=500 cwnd=500", "come A 501 201 2000 => flight=600 : A 701 501 1000 *100", "come A 501 201 2000 => flight=700 : A 801 501 1000 *100")
	// With nothing on the way there are none.
	checkTcp(t, plainEnd(), following(linked, double, double, double, double, four, two[0])...)
	// Behind a time with nobody's answer they count from 0 on, and nothing is lost by them.
	ask(third, "pass 200 => cwnd=100 : A 101 501 1000 *100", double+" => : A 201 501 1000 *100", double+" => : A 301 501 1000 *100", double+" => cwnd=100 : A 401 501 1000 *100",
		double+" => cwnd=100 : A 501 501 1000 *100")
	// All of what was on the way must have been acknowledged ahead of that; a part of it is not enough.
	recovering := []string{"pass 200 => cwnd=100 : A 101 501 1000 *100", "come A 501 201 2000 => : A 201 501 1000 *100; A 301 501 1000 *100", "come A 501 301 2000 => cwnd=200 : A 401 501 1000 *100"}
	checkTcp(t, plainEnd(), following(following(following(linked, four), recovering...), "come A 501 301 2000 => : A 501 501 1000 *100", "come A 501 301 2000 => : A 601 501 1000 *100",
		"come A 501 301 2000 => cwnd=200 : A 701 501 1000 *100")...)
	checkTcp(t, plainEnd(), following(following(following(linked, four), recovering...), "come A 501 500 2000 => cwnd=300 : A 501 501 1000 *100; A 601 501 1000 *100", "come A 501 500 2000 => : A 701 501 1000 *100",
		"come A 501 500 2000 => : A 801 501 1000 *100", "come A 501 500 2000 => cwnd=300 : A 901 501 1000 *100")...)
	checkTcp(t, plainEnd(), following(following(following(linked, four), recovering...), "come A 501 501 2000 => cwnd=300 : A 501 501 1000 *100; A 601 501 1000 *100; A 701 501 1000 *100", "come A 501 501 2000 => : A 801 501 1000 *100",
		"come A 501 501 2000 => : A 901 501 1000 *100", "come A 501 501 2000 => cwnd=250 : A 501 501 1000 *100")...)
	// One byte is as much as any to lose the next piece by.
	checkTcp(t, plainEnd(), following(linked, "write 300", double, double, double+" => cwnd=200 : A 101 501 1000 *100", "come A 501 102 2000 =>", "come A 501 102 2000 => : A 102 501 1000 *99")...)
	// Behind it they do.
	ask(third, "come A 501 701 2000 => flight=300 : A 701 501 1000 *100; A 801 501 1000 *100; A 901 501 1000 *100",
		"come A 501 701 2000 => flight=400 : PA 1001 501 1000 *100", "come A 501 701 2000 => flight=400", "come A 501 701 2000 => flight=400 cwnd=200 : A 701 501 1000 *100")
}

// What is lost goes ahead of what is new, each time as much as there is room for.
func TestTcpSendsLostAhead(t *testing.T) {
	linked := inStates()[impl.TcpEstablished]
	checkTcp(t, plainEnd(), following(linked, "write 1000 => took=1000 flight=400 cwnd=400 : A 101 501 1000 *100; A 201 501 1000 *100; A 301 501 1000 *100; A 401 501 1000 *100",
		"pass 199 =>", "pass 1 => flight=400 cwnd=100 : A 101 501 1000 *100", "come A 501 201 2000 => flight=300 cwnd=200 : A 201 501 1000 *100; A 301 501 1000 *100",
		"come A 501 401 2000 => flight=300 cwnd=300 : A 401 501 1000 *100; A 501 501 1000 *100; A 601 501 1000 *100", "come A 501 601 2000 => flight=300 cwnd=300 : A 701 501 1000 *100; A 801 501 1000 *100",
		"come A 501 701 2000 => flight=400 cwnd=400 : A 901 501 1000 *100; PA 1001 501 1000 *100")...)
	// A lost piece for which there is no room keeps new bytes from being sent.
	told := []string{"connect", "come SA 500 101 2000 sackok", "write 1000", "pass 200 => cwnd=100 : A 101 501 1000 *100"}
	checkTcp(t, plainEnd(), following(told, "come A 501 101 2000 => flight=400 cwnd=100", "come A 501 101 2000 sack 301-501 => flight=400 cwnd=100",
		"come A 501 101 2000 sack 101-201 => flight=400 : A 201 501 1000 *100", "come A 501 101 2000 sack 201-301 => flight=500 : A 501 501 1000 *100",
		"come A 501 501 2000 => flight=200 cwnd=200 : A 601 501 1000 *100")...)
	// Pieces that are smaller than a segment may be just as much as there is room for, and no more.
	quick := endWith(func(c *impl.TcpConfig) { c.NoDelay = true })
	checkTcp(t, quick, following(linked, "write 300 => flight=300 took=300 : A 101 501 1000 *100; A 201 501 1000 *100; PA 301 501 1000 *100", "write 99 => took=99 flight=399 : PA 401 501 1000 *99",
		"write 1 => took=1 flight=400 : PA 500 501 1000 *1", "write 1 => took=1 flight=400", "come A 501 500 2000 => flight=2 cwnd=500 : PA 501 501 1000 *1")...)
	checkTcp(t, quick, following(linked, "write 300", "write 99 => took=99 flight=399 : PA 401 501 1000 *99", "write 2 => took=2 flight=399", "come A 501 201 2000 => flight=301 cwnd=500 : PA 500 501 1000 *2")...)
}

// The FIN needs room of its own: in the congestion window, and in what the other end allows.
func TestTcpSendsFin(t *testing.T) {
	received := []string{"listen", "come S 500 0 2000"}
	checkTcp(t, plainEnd(), following(received, "write 400", "shut", "come A 501 101 2000 => state=5 flight=300 cwnd=400 : A 101 501 1000 *100; A 201 501 1000 *100; A 301 501 1000 *100",
		"come A 501 201 2000 => flight=301 cwnd=500 : FPA 401 501 1000 *100")...)
	checkTcp(t, plainEnd(), following(received, "write 400", "come A 501 101 2000 => flight=400 : A 101 501 1000 *100; A 201 501 1000 *100; A 301 501 1000 *100; PA 401 501 1000 *100",
		"shut => state=5 flight=400", "come A 501 102 2000 => flight=400 cwnd=401 : FA 501 501 1000")...)
	checkTcp(t, plainEnd(), following(received, "write 399", "shut", "come A 501 101 2000 => flight=400 : A 101 501 1000 *100; A 201 501 1000 *100; A 301 501 1000 *100; FPA 401 501 1000 *99")...)
	// Its place within the other end's window, just outside of it, and with none.
	allowing := func(window int, told string) []string {
		return []string{"listen", "come S 500 0 0", "write 50", "shut", fmt.Sprintf("come A 501 101 %d => state=5 %s", window, told)}
	}
	checkTcp(t, plainEnd(), following(allowing(52, "flight=51 : FPA 101 501 1000 *50"), "pass 200 => : FPA 101 501 1000 *50")...)
	checkTcp(t, plainEnd(), following(allowing(51, "flight=51 : FPA 101 501 1000 *50"), "come A 501 151 0 => flight=1", "come A 501 152 0 => flight=0 state=6")...)
	checkTcp(t, plainEnd(), following(allowing(50, "flight=50 : PA 101 501 1000 *50"), "come A 501 151 0 => flight=0", "pass 199 =>", "pass 1 => : A 150 501 1000",
		"come A 501 151 1 => flight=1 : FA 151 501 1000", "come A 501 152 0 => state=6")...)
	checkTcp(t, plainEnd(), following(allowing(0, "flight=0"), "pass 200 => : A 100 501 1000", "come A 501 101 51 => flight=51 : FPA 101 501 1000 *50")...)
	checkTcp(t, plainEnd(), "listen", "come S 500 0 0", "shut", "come A 501 101 0 => state=5 flight=0", "pass 200 => : A 100 501 1000", "come A 501 101 1 => flight=1 : FA 101 501 1000")
	// A piece that is larger than the congestion window goes where nothing else is on the way.
	checkTcp(t, plainEnd(), following(received, "write 100", "shut", "come A 501 101 2000 => flight=101 : FPA 101 501 1000 *100", "pass 200 => cwnd=100 flight=101 : FPA 101 501 1000 *100")...)
	// Behind the FIN nothing is sent, whatever there is room for.
	checkTcp(t, plainEnd(), following(inStates()[impl.TcpFinWait1], "come A 501 101 2000 => state=5 flight=1", "come A 501 101 2000 =>", "come A 501 101 2000 => : FA 101 501 1000")...)
}

// Each of the reasons for a segment, alone.
func TestTcpSendsWhatIsWorthIt(t *testing.T) {
	linked := inStates()[impl.TcpEstablished]
	quick := endWith(func(c *impl.TcpConfig) { c.NoDelay = true })
	for _, c := range []impl.TcpConfig{plainEnd(), quick} {
		// Full, while something is on the way.
		checkTcp(t, c, following(linked, "write 100 => took=100 : PA 101 501 1000 *100", "write 100 => took=100 : PA 201 501 1000 *100")...)
		// All there is, and nothing on the way.
		checkTcp(t, c, following(linked, "write 50 => took=50 : PA 101 501 1000 *50", "come A 501 151 2000 =>", "write 1 => took=1 : PA 151 501 1000 *1")...)
		// All there is, with the FIN.
		checkTcp(t, c, "listen", "come S 500 0 2000", "write 149", "shut", "come A 501 101 2000 => flight=150 : A 101 501 1000 *100; FPA 201 501 1000 *49")
		// The FIN alone, while something is on the way.
		checkTcp(t, c, following(linked, "write 50", "shut => flight=51 : FA 151 501 1000")...)
		// Neither full, nor all, nor half of what was ever allowed, though nothing is on the way.
		checkTcp(t, c, following(linked, "come A 501 101 50", "write 99 => took=99 flight=0", "come A 501 101 98 => flight=0", "come A 501 101 99 => flight=99 : PA 101 501 1000 *99")...)
		checkTcp(t, c, "connect", "come SA 500 101 100", "come A 501 101 49", "write 60 => took=60 flight=0", "come A 501 101 50 => flight=50 : A 101 501 1000 *50")
		checkTcp(t, c, "connect", "come SA 500 101 101", "come A 501 101 50", "write 60 => took=60 flight=0", "come A 501 101 51 => flight=51 : A 101 501 1000 *51")
		// Without bytes, and without a FIN.
		checkTcp(t, c, "connect", "write 0 =>", "come SA 500 101 1", "write 0 =>", "pass 1000000 =>")
	}
	// All there is, while something is on the way: only without delay.
	checkTcp(t, plainEnd(), following(linked, "write 50", "write 49 => took=49", "write 50 => took=50", "write 1 => took=1 : PA 151 501 1000 *100", "write 99 => took=99", "come A 501 151 2000 =>",
		"come A 501 251 2000 => : PA 251 501 1000 *99")...)
	checkTcp(t, quick, following(linked, "write 50", "write 49 => took=49 : PA 151 501 1000 *49", "write 1 => took=1 : PA 200 501 1000 *1")...)
	// Half of the largest window, while something is on the way.
	checkTcp(t, plainEnd(), "connect", "come SA 500 101 100", "write 49 => took=49 : PA 101 501 1000 *49", "write 49 => took=49", "write 1 => took=1 : PA 150 501 1000 *50", "write 1 => took=1")
	checkTcp(t, plainEnd(), "connect", "come SA 500 101 101", "write 49 => took=49 : PA 101 501 1000 *49", "write 50 => took=50", "write 1 => took=1 : PA 150 501 1000 *51", "write 1 => took=1")
	// As large as it ever was, not as it is by now.
	checkTcp(t, plainEnd(), following(linked, "come A 501 101 60", "write 20 => took=20 : PA 101 501 1000 *20", "write 40 => took=40", "come A 501 121 60 => : PA 121 501 1000 *40")...)
}

// sizesOf tells how many segments there are by how many bytes they have.
func sizesOf(list []impl.Segment) map[int]int {
	sizes := map[int]int{}
	for _, g := range list {
		sizes[len(g.Data)]++
	}
	return sizes
}

// A board with as many pieces as there may be takes no more; one with too many is not cut.
func TestTcpFullBoard(t *testing.T) {
	for _, row := range []struct {
		quick  bool
		flight int64
		sizes  map[int]int
	}{
		// 65495 is 1023 times 64, and 23.
		{false, 4 * 65495, map[int]int{64: 4 * 1023, 23: 4}},
		{true, mostWritten, map[int]int{65495: 4, 164: 1}},
	} {
		c := endWith(func(c *impl.TcpConfig) { c.SendSize, c.Mss, c.NoDelay = mostWritten, 65495, row.quick })
		s := &tcpText{c: c, written: 101}
		for _, text := range []string{"connect", "come SA 500 101 65535 mss 65535 scale 14", "come A 501 101 65535", "write 262144", "come A 501 65596 65535",
			"come A 501 131091 65535", "come A 501 196586 65535", "write 196485", "toobig 104"} {
			s.ops = append(s.ops, s.operation(t, text))
		}
		outs := runAll(t, running(c), s.ops)
		last := outs[len(outs)-1]
		if last.Code != impl.OK || last.Cwnd != 327475 || last.Flight != row.flight || last.Unsent != mostWritten || !maps.Equal(sizesOf(last.Sent), row.sizes) {
			t.Errorf("%+v: %d segments of %v, %s", row, len(last.Sent), sizesOf(last.Sent), shortly(last))
		}
	}
}

// With nothing sent for as long as an answer would be waited for, it begins slowly again.
func TestTcpBeginsSlowlyAgain(t *testing.T) {
	linked := inStates()[impl.TcpEstablished]
	grown := following(linked, "write 400", "come A 501 501 2000 => cwnd=500")
	checkTcp(t, plainEnd(), following(grown, "pass 199", "write 1 => took=1 cwnd=500 : PA 501 501 1000 *1")...)
	checkTcp(t, plainEnd(), following(grown, "pass 200", "write 1 => took=1 cwnd=400 : PA 501 501 1000 *1")...)
	// Any sending tells it, even where there is nothing to send; a bare acknowledgement is no sending of it.
	checkTcp(t, plainEnd(), following(grown, "pass 200", "write 0 => cwnd=400")...)
	checkTcp(t, plainEnd(), following(grown, "pass 100", "come AU 501 501 2000 => : A 501 501 1000", "pass 99", "write 0 => cwnd=500", "pass 1", "write 0 => cwnd=400")...)
	checkTcp(t, plainEnd(), following(grown, "pass 200", "come A 501 501 2000 => cwnd=400")...)
	checkTcp(t, plainEnd(), following(grown, "pass 200", "shut => cwnd=400 : FA 501 501 1000")...)
	// A FIN is something that has been sent, too; and behind its acknowledgement nothing more is.
	checkTcp(t, plainEnd(), following(grown, "pass 199", "shut", "come A 501 502 2000 => state=6 cwnd=501", "pass 5000", "come A 501 502 2000 => cwnd=501")...)
	// Not while something is on the way, nor while nothing was sent behind the SYN.
	checkTcp(t, plainEnd(), following(grown, "write 200 => took=200 flight=200 : A 501 501 1000 *100; PA 601 501 1000 *100", "pass 199", "come A 501 601 2000 => cwnd=600", "pass 200", "write 0 => cwnd=600 flight=100")...)
	checkTcp(t, plainEnd(), following(linked, "toobig 104 => cwnd=400", "pass 5000", "write 0 => cwnd=400", "write 1 => took=1 cwnd=400 : PA 101 501 1000 *1", "come A 501 102 2000 => cwnd=401", "pass 5000", "write 0 => cwnd=256")...)
	// What is sent again counts from then on.
	told := []string{"connect", "come SA 500 101 5000 sackok", "write 1000", "come A 501 201 5000", "come A 501 301 5000", "come A 501 401 5000", "come A 501 501 5000", "come A 501 601 5000 => cwnd=900 flight=500"}
	again := following(told, "write 500 => took=500 flight=900 : A 1101 501 1000 *100; A 1201 501 1000 *100; A 1301 501 1000 *100; A 1401 501 1000 *100", "come A 501 701 5000 => cwnd=1000 : PA 1501 501 1000 *100",
		"pass 100", "come A 501 701 5000 sack 801-1601 => cwnd=450 flight=900 : A 701 501 1000 *100", "come A 501 1601 5000 => cwnd=450 flight=0")
	checkTcp(t, plainEnd(), following(again, "pass 199", "write 0 => cwnd=450", "pass 1", "write 0 => cwnd=400")...)
}

func TestTcpPasses(t *testing.T) {
	c := plainEnd()
	checkTcp(t, c, "pass 1000000000 => state=0", "pass 0 => state=0", "pass 1 => code=1", "listen => state=1", "pass 1 => code=1 state=1", "pass 0 => state=1")
	checkTcp(t, c, "connect", "pass 999999999 => state=0 : "+strings.TrimSuffix(strings.Repeat("S 100 0 1000 mss 100 scale 0 sackok; ", 8), "; "), "pass 2 => code=1", "pass 1 =>", "read 1 => code=15")
	// What is not valid passes no time.
	checkTcp(t, c, "connect", "pass 999", "pass 1000000000 => code=1 state=2", "pass 0 => state=2", "pass 1 => state=2 : S 100 0 1000 mss 100 scale 0 sackok", "pass 0 =>")
	// A timer whose time is the last one there is.
	late := endWith(func(c *impl.TcpConfig) { c.Keep = lastTime })
	checkTcp(t, late, following(inStates()[impl.TcpEstablished], "pass 999999999 =>", "pass 1 => state=4 : A 100 501 1000")...)
	checkTcp(t, late, following(inStates()[impl.TcpEstablished], "pass 1", "come A 501 101 2000", "pass 999999999 => state=4")...)
}

// Eight times it is sent again, at twice the distance each time; with the ninth it dies.
func TestTcpResends(t *testing.T) {
	linked := inStates()[impl.TcpEstablished]
	c := plainEnd()
	piece, dead := "PA 101 501 1000 *5", []string{"write 1 => code=15", "read 1 => code=15", "shut => code=13", "come A 501 106 2000 => : R 106 0 0"}
	wait := func(ms, of int, text string) []string {
		return []string{fmt.Sprintf("pass %d =>", ms-1), fmt.Sprintf("pass 1 => unsent=%d flight=%d : %s", of, of, text)}
	}
	lines := following(linked, "write 5 => took=5 : "+piece)
	for _, ms := range []int{200, 400, 800, 1600, 3200, 6400, 12800, 25600} {
		lines = append(lines, wait(ms, 5, piece)...)
	}
	checkTcp(t, c, following(following(lines, "pass 51199 => state=4", "pass 1 => state=0 unsent=0 flight=0 cwnd=0"), dead...)...)
	// Anything acknowledged counts them from 0 on, though the waits go on as they were.
	two := []string{"write 200", "pass 51000", "come A 501 201 2000 => state=4 flight=100 : PA 201 501 1000 *100"}
	checkTcp(t, c, following(linked, following(two, "pass 51199 =>", "pass 1 => state=4 : PA 201 501 1000 *100", "pass 59999 =>", "pass 1 => : PA 201 501 1000 *100", "pass 359999 => : PA 201 501 1000 *100; PA 201 501 1000 *100; PA 201 501 1000 *100; PA 201 501 1000 *100; PA 201 501 1000 *100",
		"pass 1 => : PA 201 501 1000 *100", "pass 59999 => state=4", "pass 1 => state=0")...)...)
	// What is acknowledged already does not.
	checkTcp(t, c, following(lines, "come A 501 101 2000 => state=4", "pass 51199 => state=4", "pass 1 => state=0")...)
	// A wait begins with the first piece that is on the way, and again with each acknowledgement of something.
	checkTcp(t, c, following(linked, "write 100", "pass 150", "write 100 => took=100 : PA 201 501 1000 *100", "pass 49 =>", "pass 1 => : A 101 501 1000 *100")...)
	checkTcp(t, c, following(linked, "write 100", "pass 150", "write 100", "come A 501 201 2000 => flight=100", "pass 199 =>", "pass 1 => : PA 201 501 1000 *100")...)
}

// A SYN is sent nine times, alone or as an answer.
func TestTcpResendsSyn(t *testing.T) {
	for _, ahead := range [][]string{{"connect"}, {"listen", "come S 500 0 2000"}} {
		state, text := 2, "S 100 0 1000 mss 100 scale 0 sackok"
		if len(ahead) > 1 {
			state, text = 3, "SA 100 501 1000 mss 100"
		}
		lines := following(ahead, "write 7")
		for _, ms := range []int{1000, 2000, 4000, 8000, 16000, 32000, 60000, 60000} {
			lines = append(lines, fmt.Sprintf("pass %d => state=%d cwnd=400", ms-1, state), fmt.Sprintf("pass 1 => state=%d flight=1 cwnd=400 unsent=7 : %s", state, text))
		}
		checkTcp(t, plainEnd(), following(lines, fmt.Sprintf("pass 59999 => state=%d", state), "pass 1 => state=0 unsent=0", "read 1 => code=15")...)
	}
	// No round trip is measured of one that was sent twice: what is written then waits for as long as the SYN did.
	twice := []string{"connect", "pass 1000", "come SA 500 101 2000", "write 5 => took=5 : PA 101 501 1000 *5", "pass 1999 =>", "pass 1 => : PA 101 501 1000 *5"}
	checkTcp(t, plainEnd(), twice...)
	// Of one that was sent once it is: eight times 700, and 4 times 350, are 2100 to wait.
	checkTcp(t, plainEnd(), "connect", "pass 700", "come SA 500 101 2000", "write 5", "pass 2099 =>", "pass 1 => : PA 101 501 1000 *5")
	checkTcp(t, plainEnd(), "listen", "come S 500 0 2000", "pass 700", "come A 501 101 2000", "write 5", "pass 2099 =>", "pass 1 => : PA 101 501 1000 *5")
	// Tries are counted from 0 on when it is open, and the congestion window is that of the segment size.
	checkTcp(t, plainEnd(), "connect", "pass 242999", "come SA 500 101 2000 mss 80 => state=4 cwnd=320 : A 101 501 1000", "write 5", "pass 60000 => cwnd=80 : PA 101 501 1000 *5", "pass 420000 => state=4 : "+
		strings.TrimSuffix(strings.Repeat("PA 101 501 1000 *5; ", 7), "; "), "pass 59999 => state=4", "pass 1 => state=0")
}

// What goes off at one time goes off in the document's order: what is sent again, or a probe, acknowledges what has
// come, so that nothing is left to be told late.
func TestTcpTimersOfOneTime(t *testing.T) {
	ahead := []string{"connect", "come S 500 0 2000"}
	resend := following(ahead, "come A 501 101 2000 => state=4", "write 5 => took=5 : PA 101 501 1000 *5", "pass 960", "come A 501 101 2000 *3 =>")
	checkTcp(t, plainEnd(), following(resend, "pass 40 => : PA 101 504 997 *5", "pass 1 =>")...)
	checkTcp(t, plainEnd(), following(resend, "pass 39 =>", "pass 1000 => : PA 101 504 997 *5", "pass 1000 =>", "pass 1 => : PA 101 504 997 *5")...)
	probe := following(ahead, "come A 501 101 0 => state=4", "write 5 => took=5", "pass 960", "come A 501 101 0 *3 =>")
	checkTcp(t, plainEnd(), following(probe, "pass 40 => : A 100 504 997", "pass 1 =>")...)
	// One behind the other within one wait, the earliest first.
	checkTcp(t, plainEnd(), following(ahead, "come A 501 101 2000", "write 5", "pass 959", "come A 501 101 2000 *3 =>", "pass 2000 => : A 106 504 997; PA 101 504 997 *5")...)
	// The probe and the one of Keep at one time: both are sent.
	keep := endWith(func(c *impl.TcpConfig) { c.Keep = 1000 })
	checkTcp(t, keep, following(ahead, "come A 501 101 0", "write 5", "pass 999 =>", "pass 1 => : A 100 501 1000; A 100 501 1000", "pass 2000 => : A 100 501 1000")...)
}

func TestTcpProbes(t *testing.T) {
	linked := inStates()[impl.TcpEstablished]
	c := plainEnd()
	none := following(linked, "come A 501 101 0", "write 60 => took=60 flight=0 unsent=60")
	probe := " => flight=0 unsent=60 : A 100 501 1000"
	row := none
	for _, ms := range []int{200, 400, 800, 1600, 3200, 6400, 12800, 25600} {
		row = following(row, fmt.Sprintf("pass %d =>", ms-1), "pass 1"+probe)
	}
	// Nobody answers.
	checkTcp(t, c, following(row, "pass 51199 => state=4", "pass 1 => state=0 unsent=0", "write 1 => code=15", "read 1 => code=15")...)
	// An answer lets it live, but the pauses grow on, up to the longest one.
	checkTcp(t, c, following(row, "come A 501 101 0 =>", "pass 51199 =>", "pass 1"+probe, "pass 59999 =>", "pass 1"+probe, "pass 59999 =>", "pass 1"+probe, "pass 300000 => state=4 : "+
		strings.TrimSuffix(strings.Repeat("A 100 501 1000; ", 5), "; "), "pass 59999 => state=4", "pass 1 => state=0", "read 1 => code=15")...)
	// Only what acknowledges is an answer.
	checkTcp(t, c, following(row, "come AU 501 101 0 => : A 101 501 1000", "come A 501 100 0", "come - 501 101 0", "come A 9999 101 0 => : A 101 501 1000", "pass 51200 => state=0")...)
	// A new row begins when a window has opened meanwhile; its first pause is that of all.
	checkTcp(t, c, following(none, "pass 600 => : A 100 501 1000; A 100 501 1000", "come A 501 101 60 => flight=60 : PA 101 501 1000 *60", "come A 501 161 0 => flight=0", "pass 100000 =>", "write 5 => took=5", "pass 199 =>", "pass 1 => : A 160 501 1000", "pass 400 => : A 160 501 1000")...)
	// Room that is not worth a segment by itself is worth one in place of a probe.
	checkTcp(t, c, following(none, "come A 501 101 50 => flight=0", "pass 199 =>", "pass 1 => flight=50 : A 101 501 1000 *50", "pass 199 =>", "pass 1 => cwnd=100 flight=50 : A 101 501 1000 *50", "come A 501 151 9 => flight=0",
		"pass 399 =>", "pass 1 => flight=9 : A 151 501 1000 *9", "come A 501 160 1 => flight=1 : PA 160 501 1000 *1")...)
	// Such a segment is one that nobody answered, until something is acknowledged; then resend takes over.
	checkTcp(t, c, following(row, "come A 501 101 50 =>", "pass 51200 => flight=50 : A 101 501 1000 *50", "come A 501 151 0 => flight=0", "pass 199 =>", "pass 1 => : A 150 501 1000",
		"pass 399 =>", "pass 1 => : A 150 501 1000")...)
	// With NoDelay, too; and with a FIN behind the bytes.
	quick := endWith(func(c *impl.TcpConfig) { c.NoDelay = true })
	checkTcp(t, quick, following(none, "come A 501 101 50 => flight=0", "shut => state=5 flight=0", "pass 200 => flight=50 : A 101 501 1000 *50", "come A 501 151 10 => flight=10 : PA 151 501 1000 *10", "come A 501 161 1 => flight=1 : FA 161 501 1000")...)
	// One byte that does not fit keeps it on; what is written more does not put it off, nor does the other end.
	checkTcp(t, c, following(none, "pass 150", "write 20 => took=20", "come A 501 101 10 => flight=0", "come A 501 101 0 *5 =>", "pass 40 => : A 101 506 995", "pass 9 =>", "pass 1 => flight=0 : A 100 506 995")...)
	// Nothing waits: none.
	checkTcp(t, c, following(linked, "come A 501 101 0", "write 0 =>", "pass 100000 =>", "come FA 501 101 0 => : A 101 502 999", "pass 100000 =>")...)
	// Sending to a closed window is told by probes in CloseWait and in LastAck, too.
	checkTcp(t, c, following(linked, "come FA 501 101 0", "write 5", "pass 200 => : A 100 502 999", "shut => state=9", "pass 400 => state=9 : A 100 502 999", "pass 101600 => state=0 : "+
		strings.TrimSuffix(strings.Repeat("A 100 502 999; ", 6), "; "))...)
}

func TestTcpKeeps(t *testing.T) {
	c := endWith(func(c *impl.TcpConfig) { c.Keep = 5000 })
	linked := inStates()[impl.TcpEstablished]
	probe := " => state=4 flight=0 : A 100 501 1000"
	five := following(linked, "pass 4999 =>", "pass 1"+probe, "pass 9999 =>", "pass 1"+probe, "pass 10000"+probe, "pass 10000"+probe, "pass 9999 =>", "pass 1"+probe)
	checkTcp(t, c, following(five, "pass 9999 => state=4", "pass 1 => state=0", "read 1 => code=15")...)
	// An answer to the fifth, at the last moment, and whatever comes: all begins anew.
	for _, answer := range []string{"come A 501 101 2000 =>", "come AU 501 101 2000 => : A 101 501 1000", "come R 9999 0 0 =>", "come S 9999 0 0 => : A 101 501 1000", "come - 501 0 0 =>"} {
		checkTcp(t, c, following(five, "pass 9999 =>", answer, "pass 4999 =>", "pass 1"+probe, "pass 40000 => state=4 : A 100 501 1000; A 100 501 1000; A 100 501 1000; A 100 501 1000", "pass 9999 => state=4", "pass 1 => state=0")...)
	}
	// What is not valid has not come.
	checkTcp(t, c, following(five, "come A 501 101 2000 *65496 => code=1", "pass 10000 => state=0")...)
	// Not while something is on the way: then it waits once more.
	checkTcp(t, c, following(linked, "pass 4900", "write 5", "pass 100 =>", "pass 100 => : PA 101 501 1000 *5", "come A 501 106 2000 =>", "pass 4999 =>", "pass 1 => : A 105 501 1000")...)
	checkTcp(t, c, following(linked, "write 5", "pass 102199 => state=4 : "+strings.TrimSuffix(strings.Repeat("PA 101 501 1000 *5; ", 8), "; "), "pass 1 => state=0")...)
	// While a row lasts, nothing else is put off.
	checkTcp(t, c, following(linked, "pass 5000"+probe, "write 5 => took=5 : PA 101 501 1000 *5", "pass 10000 => : PA 101 501 1000 *5; PA 101 501 1000 *5; PA 101 501 1000 *5; PA 101 501 1000 *5; PA 101 501 1000 *5", "come A 501 106 2000 =>",
		"pass 4999 =>", "pass 1 => : A 105 501 1000")...)
	// Only in two states; from being open on, and not ahead of it.
	closing := following(linked, "come FA 501 101 2000", "pass 5000 => state=7 : A 100 502 999", "pass 49999 => state=7 : A 100 502 999; A 100 502 999; A 100 502 999; A 100 502 999", "pass 1 => state=0")
	checkTcp(t, c, following(closing, "read 1 => code=17", "write 1 => code=15")...)
	for _, state := range []int{impl.TcpFinWait2, impl.TcpTimeWait} {
		checkTcp(t, c, following(inStates()[state], "pass 59999 => state="+fmt.Sprint(state))...)
	}
	checkTcp(t, c, following(inStates()[impl.TcpFinWait2], "pass 4999", "come A 501 102 2000 =>", "pass 1000000 => state=6", "come FA 501 102 2000 => state=10 : A 102 502 999")...)
	checkTcp(t, c, "listen", "pass 100000 => state=1", "come S 500 0 2000", "pass 900 =>", "come A 501 101 2000 => state=4", "pass 4999 =>", "pass 1 => : A 100 501 1000")
	checkTcp(t, c, "connect", "pass 999", "come SA 500 101 2000 => state=4 : A 101 501 1000", "pass 4999 =>", "pass 1 => : A 100 501 1000")
	// Off, it stays off.
	checkTcp(t, plainEnd(), following(linked, "come A 501 101 2000", "pass 1000000 => state=4")...)
	least := endWith(func(c *impl.TcpConfig) { c.Keep = 1000 })
	checkTcp(t, least, following(linked, "pass 999 =>", "pass 1"+probe, "pass 49999 => state=4 : A 100 501 1000; A 100 501 1000; A 100 501 1000; A 100 501 1000", "pass 1 => state=0")...)
}

func TestTcpComplaints(t *testing.T) {
	linked := inStates()[impl.TcpEstablished]
	c := plainEnd()
	four := following(linked, "write 400")
	// What is no size of a packet, what is no news, and what is.
	for _, none := range []string{"toobig 67 => code=1", "toobig 65536 => code=1", "toobig -1 => code=1", "toobig 140 => cwnd=400 flight=400", "toobig 141 =>", "toobig 65535 => cwnd=400"} {
		checkTcp(t, c, following(four, none, "pass 199 =>", "pass 1 => : A 101 501 1000 *100")...)
	}
	small := " => flight=400 cwnd=400 : A 101 501 1000 *64; A 165 501 1000 *36; A 201 501 1000 *64; A 265 501 1000 *36; A 301 501 1000 *64; A 365 501 1000 *36; A 401 501 1000 *64; PA 465 501 1000 *36"
	for _, packet := range []string{"68", "69", "103", "104"} {
		checkTcp(t, c, following(four, "toobig "+packet+small, "toobig "+packet+" =>", "toobig 68 =>", "toobig 139 =>")...)
	}
	checkTcp(t, c, following(four, "toobig 139 => : A 101 501 1000 *99; A 200 501 1000 *1; A 201 501 1000 *99; A 300 501 1000 *1; A 301 501 1000 *99; A 400 501 1000 *1; A 401 501 1000 *99; PA 500 501 1000 *1",
		"toobig 139 =>", "toobig 105 => : A 101 501 1000 *65; A 166 501 1000 *34; A 200 501 1000 *1; A 201 501 1000 *65; A 266 501 1000 *34; A 300 501 1000 *1; A 301 501 1000 *65; A 366 501 1000 *34; A 400 501 1000 *1; "+
			"A 401 501 1000 *65; A 466 501 1000 *34; PA 500 501 1000 *1", "toobig 104 => : A 101 501 1000 *64; A 165 501 1000 *1; A 166 501 1000 *34; A 200 501 1000 *1; A 201 501 1000 *64; A 265 501 1000 *1; A 266 501 1000 *34; A 300 501 1000 *1; "+
			"A 301 501 1000 *64; A 365 501 1000 *1; A 366 501 1000 *34; A 400 501 1000 *1; A 401 501 1000 *64; A 465 501 1000 *1; A 466 501 1000 *34; PA 500 501 1000 *1")...)
	// The segment size is less for all that is new, and the congestion window grows by it.
	checkTcp(t, c, following(linked, "toobig 104 => cwnd=400", "write 200 => took=200 : A 101 501 1000 *64; A 165 501 1000 *64; A 229 501 1000 *64", "come A 501 293 2000 => cwnd=464 : PA 293 501 1000 *8")...)
	// What the other end told of its own size is the one that is made less.
	told := []string{"connect", "come SA 500 101 2000 mss 80"}
	checkTcp(t, c, following(told, "toobig 120 => cwnd=320", "toobig 119 => cwnd=320", "write 80 => took=80 : A 101 501 1000 *79")...)
	// A FIN is cut off where the bytes are a whole segment.
	wide := endWith(func(c *impl.TcpConfig) { c.Mss = 200 })
	checkTcp(t, wide, "listen", "come S 500 0 2000", "write 100", "shut", "come A 501 101 2000 => flight=101 : FPA 101 501 1000 *100", "toobig 140 => state=5 flight=101 : PA 101 501 1000 *100; FA 201 501 1000")
	checkTcp(t, wide, "listen", "come S 500 0 2000", "write 100", "shut", "come A 501 101 2000", "toobig 141 => state=5 flight=101 : FPA 101 501 1000 *100")
	// What is there is not told to be there any more, and what has been lost is sent again, too.
	sacked := []string{"connect", "come SA 500 101 2000 sackok", "write 400", "come A 501 101 2000 sack 201-501 => cwnd=200 : A 101 501 1000 *100"}
	checkTcp(t, c, following(sacked, "toobig 139 => cwnd=200 flight=400 : A 101 501 1000 *99; A 200 501 1000 *1; A 201 501 1000 *99; A 300 501 1000 *1")...)
	// As much as there is room for; resend goes on as it was, and no try is counted.
	checkTcp(t, c, following(four, "pass 100", "toobig 104"+small, "pass 99 =>", "pass 1 => cwnd=64 : A 101 501 1000 *64", "come A 501 165 2000 => cwnd=128 : A 165 501 1000 *36; A 201 501 1000 *64")...)
	// In CloseWait, too; and where nothing is sent any more it is only known.
	checkTcp(t, c, following(linked, "come FA 501 101 2000", "write 100", "toobig 104 => state=7 : A 101 502 999 *64; PA 165 502 999 *36")...)
	checkTcp(t, c, following(inStates()[impl.TcpFinWait2], "toobig 104 => state=6 cwnd=401")...)
}

// What is unread can be read behind each way of dying, and then the reason is told.
func TestTcpDies(t *testing.T) {
	linked := following(inStates()[impl.TcpEstablished], "come A 501 101 2000 *5", "pass 40")
	dying := []struct {
		keep   int64
		lines  []string
		unread int
		read   string
		write  string
	}{
		{0, following(linked, "abort"), 5, "17", "17"},
		{0, following(linked, "come R 506 0 0"), 5, "14", "14"},
		{0, following(linked, "write 9", "pass 102200"), 5, "15", "15"},
		{0, following(linked, "come A 506 101 0", "write 9", "pass 102200"), 5, "15", "15"},
		{1000, following(linked, "pass 51000"), 5, "15", "15"},
		{0, following(linked, "come FA 506 101 2000", "abort"), 5, "17", "17"},
		{0, following(linked, "come FA 506 101 2000", "come R 507 0 0"), 5, "17", "14"},
		{0, following(linked, "come FA 506 101 2000", "shut", "come A 507 102 2000"), 5, "17", "13"},
		{0, following(linked, "shut", "come FA 506 102 2000", "pass 60000"), 5, "17", "13"},
		{0, following(linked, "shut", "come A 506 102 2000", "come FA 506 102 2000", "abort"), 5, "17", "17"},
		{0, following(linked, "shut", "pass 102200"), 5, "15", "15"},
		{0, []string{"connect", "write 5", "shut"}, 0, "17", "17"},
		{0, []string{"listen", "write 5", "shut"}, 0, "17", "17"},
		{0, []string{"connect", "abort"}, 0, "17", "17"},
		{0, []string{"listen", "abort"}, 0, "17", "17"},
		{0, []string{"connect", "come RA 0 101 0"}, 0, "16", "16"},
		{0, []string{"listen", "come S 500 0 0", "abort"}, 0, "17", "17"},
		{0, []string{"listen", "come S 500 0 0", "come R 501 0 0"}, 0, "16", "16"},
		{0, []string{"listen", "come S 500 0 0", "pass 243000"}, 0, "15", "15"},
		{0, []string{"connect", "pass 243000"}, 0, "15", "15"},
	}
	for _, d := range dying {
		c := endWith(func(c *impl.TcpConfig) { c.Keep = d.keep })
		dead := fmt.Sprintf("state=0 cwnd=0 flight=0 unsent=0 unread=%d", d.unread)
		lines := following(d.lines, "write 1 => code="+d.write+" "+dead, "write 0 => code="+d.write, "shut => code=13 "+dead, "abort => code=13 "+dead, "connect => code=13", "listen => code=13", "toobig 100 => code=13 "+dead,
			"come A 506 101 2000 *5 => "+dead+" : R 101 0 0", "pass 500000 => "+dead)
		if d.unread > 0 {
			lines = following(lines, fmt.Sprintf("read %d => data=%d unread=1", d.unread-1, d.unread-1), "read 9 => data=1 unread=0")
		}
		checkTcp(t, c, following(lines, "read 1 => code="+d.read+" unread=0", "read 0 => code=1", "write 1 => code="+d.write)...)
	}
	// What is held is forgotten, so that nothing of it can be read.
	held := following(linked, "come A 510 101 2000 *5", "come R 506 0 0 => state=0 unread=5", "read 100 => data=5", "read 100 => code=14")
	checkTcp(t, plainEnd(), held...)
	// One that was never told to do anything has no reason.
	checkTcp(t, plainEnd(), "read 1 => code=13", "write 1 => code=13", "shut => code=13", "abort => code=13", "pass 5 =>", "toobig 100 => code=13", "connect => state=2 : S 100 0 1000 mss 100 scale 0 sackok")
}

// Places that pass the end of the sequence numbers, both ways.
func TestTcpPassesTheSeam(t *testing.T) {
	c := endWith(func(c *impl.TcpConfig) { c.Iss = allSeqs - 1 })
	checkTcp(t, c, "connect => : S 4294967295 0 1000 mss 100 scale 0 sackok", "come SA 4294967290 0 2000 sackok => state=4 : A 0 4294967291 1000",
		"write 400 => took=400 : A 0 4294967291 1000 *100; A 100 4294967291 1000 *100; A 200 4294967291 1000 *100; PA 300 4294967291 1000 *100",
		"come A 4 0 2000 *6 => unread=0 : A 400 4294967291 1000 sack 4-10", "come A 4294967293 100 2000 *3 => cwnd=500 : A 400 4294967291 1000 sack 4294967293-0 sack 4-10",
		"come A 4294967291 100 2000 sack 200-400 *13 => unread=15 : A 400 10 985", "read 15 => data=15", "come FA 10 400 2000 => state=7 flight=0 : A 400 11 984")
	near := endWith(func(c *impl.TcpConfig) { c.Iss = allSeqs - 102 })
	checkTcp(t, near, "listen", "come S 4294967295 0 2000 sackok => : SA 4294967194 0 1000 mss 100 sackok", "come A 0 4294967195 2000 => state=4",
		"write 400 => took=400 : A 4294967195 0 1000 *100; A 4294967295 0 1000 *100; A 99 0 1000 *100; PA 199 0 1000 *100",
		"come A 0 4294967195 2000 sack 4294967295-99 sack 99-299 => cwnd=200 flight=400 : A 4294967195 0 1000 *100", "come A 0 4294967295 2000 sack 99-299 => flight=300", "come A 0 299 2000 => flight=0",
		"shut => : FA 299 0 1000", "come A 0 300 2000 => state=6", "come R 4294967295 0 0 =>", "come R 1 0 0 => : A 300 0 1000", "come R 0 0 0 => state=0")
	checkTcp(t, near, "connect", "shut => state=0", "come A 5 4294967295 0 => : R 4294967295 0 0", "come S 4294967295 0 0 => : RA 0 0 0", "come SF 4294967294 0 0 *3 => : RA 0 3 0")
}

// unshiftedScript is a random script of an end with Keep 0 and a window that no shift is asked for.
func unshiftedScript(chance *rand.Rand, ops int) *tcpScript {
	c := randomTcpConfig(chance)
	c.Keep, c.RecvSize = 0, min(c.RecvSize, 65535)
	s := newTcpScript(chance, c)
	for range ops {
		s.add(s.randomOp())
	}
	return s
}

// farSegment is at least 200000 places away from what an end wants, either way, with whatever flags but a FIN.
func farSegment(chance *rand.Rand, c impl.TcpConfig, wanted int64) impl.Segment {
	away := 200000 + chance.Int63n(allSeqs-400000)
	g := randomSegment(chance, pick(chance, 0, 0, 1, chance.Intn(200)))
	g.SrcPort, g.DstPort, g.Flags = c.RemotePort, c.LocalPort, g.Flags&^segFin
	g.Seq = (wanted + pick(chance, away, 200000, allSeqs-200000, halfway, halfway-1)) % allSeqs
	g.Sacks = nil
	return g
}

// butSent is what an operation told, but for what was sent.
func butSent(out impl.TcpOut) impl.TcpOut {
	out.Sent = nil
	return out
}

// P23: segments far from the window change nothing of what the other operations tell, but for what is sent.
func TestTcpFarSegmentsChangeNothing(t *testing.T) {
	chance := newChance()
	far, taken := 0, 0
	for range 1500 {
		s := unshiftedScript(chance, 0)
		var mixed []impl.TcpOp
		var own []int
		for range 20 + chance.Intn(80) {
			own = append(own, len(mixed))
			op := s.randomOp()
			mixed = append(mixed, op)
			s.add(op)
			for s.m.state >= 3 && often(chance, 60) {
				mixed = append(mixed, impl.TcpOp{Kind: impl.TcpDoSegment, Segment: farSegment(chance, s.m.c, s.m.otherNumber(s.m.r()))})
				far++
			}
		}
		outs := runAll(t, running(s.m.c), mixed)
		for i, out := range outs {
			if mixed[i].Kind == impl.TcpDoSegment && !slices.Contains(own, i) && out.Code != impl.OK {
				t.Fatalf("%+v: %s is not taken", s.m.c, shortly(mixed[i]))
			}
		}
		for i, place := range own {
			taken += len(outs[place].Data)
			if !sameTcpOut(butSent(outs[place]), butSent(s.want[i])) {
				t.Fatalf("%+v, operation %d, %s: %s, not %s", s.m.c, i, shortly(s.ops[i]), shortly(outs[place]), shortly(s.want[i]))
			}
		}
	}
	if far < 10000 || taken < 10000 {
		t.Errorf("%d segments, %d bytes: too few", far, taken)
	}
}

// tcpWatch follows what an end has told the other one.
type tcpWatch struct {
	irs, acknowledged, allowed int64
}

func (w *tcpWatch) check(t *testing.T, c impl.TcpConfig, g impl.Segment) {
	t.Helper()
	if int64(len(g.Data)) > c.Mss {
		t.Fatalf("%+v: %d bytes in a segment", c, len(g.Data))
	}
	if g.Flags&segRst != 0 || g.Flags&segAck == 0 {
		return
	}
	place := placeFrom(w.irs, g.Ack)
	if place < max(w.acknowledged, 1) || place+g.Window < w.allowed {
		t.Fatalf("%+v: %s behind %+v", c, shortly(g), w)
	}
	w.acknowledged, w.allowed = place, place+g.Window
}

// P24: what has been acknowledged, and what has been allowed, is never taken back; no segment is too long.
func TestTcpTakesNothingBack(t *testing.T) {
	chance := newChance()
	longest := 0
	for range 2000 {
		s := unshiftedScript(chance, 20+chance.Intn(100))
		w := tcpWatch{irs: s.m.irs}
		for _, out := range runAll(t, running(s.m.c), s.ops) {
			for _, g := range out.Sent {
				w.check(t, s.m.c, g)
				longest += int(oneIf(int64(len(g.Data)) == s.m.c.Mss))
			}
		}
	}
	if longest < 100 {
		t.Errorf("only %d segments as long as may be", longest)
	}
}

// P25: an end never has more than its bounds; closed it sends nothing by itself.
func TestTcpKeepsItsBounds(t *testing.T) {
	chance := newChance()
	full := map[string]int{}
	for range 2000 {
		s := newTcpScript(chance, randomTcpConfig(chance))
		for range 20 + chance.Intn(100) {
			s.add(s.randomOp())
		}
		c, state := s.m.c, int64(impl.TcpClosed)
		for i, out := range runAll(t, running(c), s.ops) {
			if out.Unsent > c.SendSize || out.Unread > c.RecvSize || out.Flight > c.SendSize+2 {
				t.Fatalf("%+v, operation %d: %s", c, i, shortly(out))
			}
			if state == impl.TcpClosed && out.State == state && s.ops[i].Kind != impl.TcpDoSegment && len(out.Sent) > 0 {
				t.Fatalf("%+v, operation %d: closed it sends %s", c, i, shortly(out.Sent))
			}
			state = out.State
			full["to send"] += int(oneIf(out.Unsent == c.SendSize))
			full["to read"] += int(oneIf(out.Unread == c.RecvSize))
			full["on the way"] += int(oneIf(out.Flight > c.SendSize))
			full["closed"] += int(oneIf(out.State == impl.TcpClosed))
		}
	}
	for _, what := range []string{"to send", "to read", "on the way", "closed"} {
		if full[what] < 10 {
			t.Errorf("%s: only %d times as much as may be", what, full[what])
		}
	}
}

// tcpPast is what has happened to an end, and might be a reason.
type tcpPast struct {
	reset, closed bool
	passed        int64
}

func (p *tcpPast) add(op impl.TcpOp, code int64) {
	switch {
	case code != impl.OK:
	case op.Kind == impl.TcpDoSegment:
		p.reset = p.reset || op.Segment.Flags&segRst != 0
		p.closed = p.closed || op.Segment.Flags&segFin != 0
	case op.Kind == impl.TcpDoShut || op.Kind == impl.TcpDoAbort:
		p.closed = true
	case op.Kind == impl.TcpDoPass:
		p.passed += op.Wait
	}
}

// hasReason tells whether a code may be told.
func (p *tcpPast) hasReason(code, unsent, sendSize int64) bool {
	switch code {
	case impl.ErrReset, impl.ErrRefused:
		return p.reset
	case impl.ErrFull:
		return unsent == sendSize
	case impl.ErrClosed:
		return p.closed
	case impl.ErrTimeout:
		return p.passed >= 1000
	}
	return code == impl.OK || code == impl.ErrForm || code == impl.ErrState || code == impl.ErrWait
}

// P26: no code is told without its reason.
func TestTcpTellsReasons(t *testing.T) {
	chance := newChance()
	told := map[int64]int{}
	for range 4000 {
		s := newTcpScript(chance, randomTcpConfig(chance))
		for range 20 + chance.Intn(100) {
			s.add(s.randomOp())
		}
		var past tcpPast
		for i, out := range runAll(t, running(s.m.c), s.ops) {
			if past.add(s.ops[i], out.Code); !past.hasReason(out.Code, out.Unsent, s.m.c.SendSize) {
				t.Fatalf("%+v, operation %d, %s: %d", s.m.c, i, shortly(s.ops[i]), out.Code)
			}
			told[out.Code]++
		}
	}
	for _, code := range []int64{impl.OK, impl.ErrForm, impl.ErrState, impl.ErrReset, impl.ErrRefused, impl.ErrFull, impl.ErrClosed, impl.ErrTimeout, impl.ErrWait} {
		if told[code] < 10 {
			t.Errorf("%d is told only %d times", code, told[code])
		}
	}
}

// P55: small writings are gathered while one is on the way, unless it may not be delayed.
func TestTcpGathersSmallWritings(t *testing.T) {
	chance := newChance()
	for range 500 {
		c := endWith(func(c *impl.TcpConfig) {
			c.Mss, c.SendSize, c.Iss, c.NoDelay = 164+chance.Int63n(2000), 100+chance.Int63n(1000), chance.Int63n(allSeqs), often(chance, 50)
		})
		lines := []string{"connect", fmt.Sprintf("come SA 500 %d 5000", seqAfter(c.Iss, 1))}
		at, all, count := int64(1), int64(0), 2+chance.Intn(4)
		for i := range count {
			n := 1 + chance.Int63n(20)
			told := fmt.Sprintf("write %d => took=%d", n, n)
			if i == 0 || c.NoDelay {
				told += fmt.Sprintf(" : PA %d 501 1000 *%d", seqAfter(c.Iss, 1+all), n)
			}
			if i == 0 {
				at += n
			}
			all += n
			lines = append(lines, told)
		}
		end := seqAfter(c.Iss, 1+all)
		if c.NoDelay {
			lines = append(lines, fmt.Sprintf("come A 501 %d 5000 => flight=0 unsent=0", end))
		} else {
			lines = append(lines, fmt.Sprintf("come A 501 %d 5000 => flight=%d : PA %d 501 1000 *%d", seqAfter(c.Iss, at), all+1-at, seqAfter(c.Iss, at), all+1-at), fmt.Sprintf("come A 501 %d 5000 => flight=0 unsent=0", end))
		}
		checkTcp(t, c, lines...)
	}
}

func seqAfter(seq, n int64) int64 { return (seq + n) % allSeqs }

// roomyTcpOps are the same operations in memory of their own, with room behind their lists, and two more behind them.
func roomyTcpOps(ops []impl.TcpOp) []impl.TcpOp {
	room := append(slices.Clone(ops), impl.TcpOp{Kind: impl.TcpDoListen}, impl.TcpOp{Kind: impl.TcpDoConnect})
	for i, op := range room {
		room[i].Data = append(bytes.Clone(op.Data), "room"...)[:len(op.Data)]
		room[i].Segment.Data = append(bytes.Clone(op.Segment.Data), "behind"...)[:len(op.Segment.Data)]
		room[i].Segment.Sacks = append(slices.Clone(op.Segment.Sacks), impl.Stretch{From: 1, To: 2})[:len(op.Segment.Sacks)]
	}
	return room
}

func sameTcpOp(a, b impl.TcpOp) bool {
	stretchRoom := func(list []impl.Stretch) []impl.Stretch { return list[:len(list)+1] }
	return a.Kind == b.Kind && a.N == b.N && a.Wait == b.Wait && sameSegment(a.Segment, b.Segment) &&
		bytes.Equal(a.Data[:len(a.Data)+4], b.Data[:len(b.Data)+4]) &&
		bytes.Equal(a.Segment.Data[:len(a.Segment.Data)+6], b.Segment.Data[:len(b.Segment.Data)+6]) &&
		slices.Equal(stretchRoom(a.Segment.Sacks), stretchRoom(b.Segment.Sacks))
}

func cloneTcpOuts(outs []impl.TcpOut) []impl.TcpOut {
	list := slices.Clone(outs)
	for i, out := range outs {
		list[i].Data = bytes.Clone(out.Data)
		list[i].Sent = slices.Clone(out.Sent)
		for k, g := range out.Sent {
			list[i].Sent[k] = cloneSegment(g)
		}
	}
	return list
}

// checkTcpListsApart writes into each list of an answer, up to its capacity, one behind the other: none of the others
// may be another one then. told has the same once more.
func checkTcpListsApart(t *testing.T, outs, told []impl.TcpOut) {
	t.Helper()
	for i := range outs {
		spoil(outs[i].Data, 99)
		outs[i].Data = told[i].Data
		for k := range outs[i].Sent {
			g := &outs[i].Sent[k]
			spoil(g.Data, 98)
			g.Data = told[i].Sent[k].Data
			if !sameTcpOut(outs[i], told[i]) {
				t.Fatalf("the bytes of segment %d of operation %d are in another list's memory", k, i)
			}
			spoil(g.Sacks, impl.Stretch{From: 7, To: 9})
			g.Sacks = told[i].Sent[k].Sacks
		}
		spoil(outs[i].Sent, impl.Segment{Seq: 97})
		outs[i].Sent = told[i].Sent
		if !sameTcpOuts(outs, told) {
			t.Fatalf("a list of operation %d is in another's memory", i)
		}
	}
}

// P51: a run answers the same again and changes none of its operations, the room behind their lists included; what it
// tells is in nobody else's memory, and a list that is written into, up to its capacity, changes no other one.
func TestTcpSharesNothing(t *testing.T) {
	chance := newChance()
	for range 300 {
		s := newTcpScript(chance, randomTcpConfig(chance))
		for range 20 + chance.Intn(60) {
			s.add(s.randomOp())
		}
		room, kept := roomyTcpOps(s.ops), roomyTcpOps(s.ops)
		first := runAll(t, running(s.m.c), room[:len(s.ops)])
		told := cloneTcpOuts(first)
		second := runAll(t, running(s.m.c), room[:len(s.ops)])
		if !sameTcpOuts(second, told) || !slices.EqualFunc(room, kept, sameTcpOp) {
			t.Fatal("another answer the second time, or an operation was changed")
		}
		if checkTcpListsApart(t, second, told); !slices.EqualFunc(room, kept, sameTcpOp) {
			t.Fatal("an answer is in an operation's memory")
		}
		for _, op := range room {
			spoil(op.Data, 96)
			spoil(op.Segment.Data, 95)
			spoil(op.Segment.Sacks, impl.Stretch{From: 5, To: 6})
		}
		if clear(room); !sameTcpOuts(first, told) {
			t.Fatal("an answer is in an operation's memory")
		}
	}
}

// P51: runs at the same time on the same operations answer the same.
func TestTcpAtTheSameTime(t *testing.T) {
	chance := newChance()
	s := newTcpScript(chance, endWith(func(c *impl.TcpConfig) { c.Keep = 5000 }))
	for range 300 {
		s.add(s.randomOp())
	}
	done := make(chan bool)
	for range 8 {
		go func() {
			outs, code := impl.RunTcp(s.m.c, s.ops)
			done <- code == impl.OK && sameTcpOuts(outs, s.want)
		}()
	}
	for range 8 {
		if !<-done {
			t.Error("another answer beside others")
		}
	}
}

// hostileOp has numbers as far out as they may be, more often than not in a segment of this stream.
func hostileOp(chance *rand.Rand, c impl.TcpConfig) impl.TcpOp {
	numbers := append(edgeNumbers(), 1, 64, 100, 101, 500, 501, 1000)
	number := func() int64 { return numbers[chance.Intn(len(numbers))] }
	legal := func(most int64) int64 {
		if often(chance, 5) {
			return number()
		}
		return pick(chance, 0, 1, most, most-1, most/2, most/2+1, chance.Int63n(most+1))
	}
	op := impl.TcpOp{Kind: pick(chance, 7, 7, 7, 7, 7, 7, 1, 2, 3, 4, 5, 6, 8, 9, number()), N: number(), Wait: pick(chance, number(), 0, 1, 1000, 60000), Data: randomBytes(chance, chance.Intn(300))}
	g := &op.Segment
	g.SrcPort, g.DstPort = pick(chance, c.RemotePort, c.RemotePort, c.RemotePort, c.RemotePort, legal(65535)), pick(chance, c.LocalPort, c.LocalPort, c.LocalPort, c.LocalPort, legal(65535))
	g.Seq, g.Ack = pick(chance, 500, 501, 502, legal(allSeqs-1)), pick(chance, 100, 101, 102, 201, legal(allSeqs-1))
	g.Flags, g.Window = pick(chance, 63, 63, segSyn, segAck, segAck|segSyn, segAck|segFin, 31, legal(63)), legal(65535)
	g.Mss, g.SackOK = legal(65535), often(chance, 50)
	if g.HasScale = often(chance, 50); g.HasScale {
		g.Scale = legal(14)
	}
	for range chance.Intn(5) {
		g.Sacks = append(g.Sacks, impl.Stretch{From: legal(allSeqs - 1), To: legal(allSeqs - 1)})
	}
	g.Data = randomBytes(chance, pick(chance, 0, 1, 100, chance.Intn(1000), 65495*int(oneIf(often(chance, 2)))))
	return op
}

// P51: whatever the numbers are, a run ends, and answers what the model does.
func TestTcpHostileOperations(t *testing.T) {
	chance := newChance()
	deaths := 0
	for range 1500 {
		s := newTcpScript(chance, randomTcpConfig(chance))
		s.m.c.Iss = pick[int64](chance, 100, 100, s.m.c.Iss)
		s.m = newModelEnd(s.m.c)
		s.add(impl.TcpOp{Kind: pick[int64](chance, impl.TcpDoConnect, impl.TcpDoListen)})
		for range chance.Intn(80) {
			s.add(hostileOp(chance, s.m.c))
		}
		s.check(t)
		deaths += int(oneIf(s.m.state == 0))
	}
	if deaths < 100 {
		t.Errorf("only %d have died", deaths)
	}
}

// P51: as many operations as there may be end, with as many pieces on the way as there may be.
func TestTcpLongRuns(t *testing.T) {
	c := endWith(func(c *impl.TcpConfig) { c.Mss, c.SendSize, c.RecvSize, c.NoDelay = 64, mostWritten, mostWritten, true })
	s := &tcpText{c: c, written: 101}
	for _, text := range []string{"connect", "come SA 500 101 65535 scale 14 sackok", "write 262144"} {
		s.ops = append(s.ops, s.operation(t, text))
	}
	for i := len(s.ops); i < impl.MaxOps; i++ {
		text := fmt.Sprintf("come A %d 101 65535 sack %d-%d *9", 502+20*i, 101+64*i, 165+64*i)
		if i%2 == 0 {
			text = fmt.Sprintf("come A 501 %d 65535", 101+64*i)
		}
		s.ops = append(s.ops, s.operation(t, text))
	}
	if outs := runAll(t, running(c), s.ops); outs[impl.MaxOps-1].State != impl.TcpEstablished || outs[impl.MaxOps-2].Flight == 0 {
		t.Errorf("in the end %s", shortly(outs[impl.MaxOps-1]))
	}
}
