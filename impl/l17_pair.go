package impl

import "sync"

// Numbers of two ends, see chapter 18.
const (
	PairA    = 167772161
	PairB    = 167772162
	SideA    = 0
	SideB    = 1
	SideWait = 2
	MaxFates = 4000
	MaxSteps = 20000
)

// Bounds of delays and of copies.
const (
	pairMostDelay  = 10000
	fateMostDelay  = 100000
	fateMostCopies = 3
)

const (
	byteBits   = 8
	highestBit = 1 << (byteBits - 1)
)

// Fate is what becomes of a segment on the wire.
type Fate struct {
	Lose                 bool
	Copies, Delay, Spoil int64
}

// PairConfig is how two ends begin.
type PairConfig struct {
	A, B  TcpConfig
	Delay int64
}

// PairOp is an operation of one of two ends, or waiting.
type PairOp struct {
	Side, Wait int64
	Op         TcpOp
}

// PairOut is what comes of an operation.
type PairOut struct {
	Code, Took                      int64
	Data                            []byte
	StateA, StateB, Sent, Come, Bad int64
}

// endCommand is what an end is told to do, and what time it is: an operation, or that its next timer goes off.
type endCommand struct {
	now     int64
	goesOff bool
	op      TcpOp
}

// endAnswer is what came of a command, and when the next timer goes off.
type endAnswer struct {
	out   TcpOut
	dueAt int64
}

// pairEnd is an end as the wire knows it: where it is spoken to, and what it has told last.
type pairEnd struct {
	addr         int64
	commands     chan endCommand
	answers      chan endAnswer
	state, dueAt int64
}

// timed is something with a time; number is how many had been added ahead of it.
type timed[T any] struct {
	at, number int64
	what       T
}

// timeQueue gives what has the earliest time first, and of one time what was added first. It is a heap: none of items
// is ahead of the one at half its place.
type timeQueue[T any] struct {
	items []timed[T]
	added int64
}

// delivery is a segment's bytes on the way to a side's end.
type delivery struct {
	to    int64
	bytes []byte
}

// pairWire has two ends by side, and all that is on the way between them.
type pairWire struct {
	ends                   [2]*pairEnd
	living                 sync.WaitGroup
	delay, now             int64
	fates                  []Fate
	onTheWay               timeQueue[delivery]
	sent, come, bad, steps int64
	isSpent                bool
}

func portsMatch(a, b TcpConfig) bool {
	return a.LocalPort == b.RemotePort && a.RemotePort == b.LocalPort
}

func validPairConfig(c PairConfig) bool {
	return validTcpConfig(c.A) && validTcpConfig(c.B) && portsMatch(c.A, c.B) && c.Delay >= 1 && c.Delay <= pairMostDelay
}

func validFate(f Fate) bool {
	return f.Copies >= 0 && f.Copies <= fateMostCopies && f.Delay >= 1 && f.Delay <= fateMostDelay && f.Spoil >= 0
}

func validFates(fates []Fate) bool {
	for _, f := range fates {
		if !validFate(f) {
			return false
		}
	}
	return true
}

// RunPair runs two ends and the wire between them, see chapter 18.
func RunPair(c PairConfig, fates []Fate, ops []PairOp) ([]PairOut, int64) {
	if !validPairConfig(c) || !validFates(fates) {
		return nil, ErrForm
	}
	if len(ops) > MaxOps || len(fates) > MaxFates {
		return nil, ErrCount
	}
	w := &pairWire{delay: c.Delay, fates: fates}
	w.begin(SideA, PairA, c.A)
	w.begin(SideB, PairB, c.B)
	defer w.close()
	return outsOf(ops, w.do), OK
}

// begin lets an end live by itself; from here on only commands reach it.
func (w *pairWire) begin(side int, addr int64, c TcpConfig) {
	e := &pairEnd{
		addr:     addr,
		commands: make(chan endCommand),
		answers:  make(chan endAnswer),
		state:    TcpClosed,
		dueAt:    afterAllTimes,
	}
	w.ends[side] = e
	w.living.Add(1)
	go func() {
		defer w.living.Done()
		newTcpEnd(c).obeyAll(e.commands, e.answers)
	}()
}

// close waits until both ends have ended: nothing of them may outlive the run.
func (w *pairWire) close() {
	for _, e := range w.ends {
		close(e.commands)
	}
	w.living.Wait()
}

// obeyAll ends when there are no more commands.
func (e *tcpEnd) obeyAll(commands <-chan endCommand, answers chan<- endAnswer) {
	for command := range commands {
		answers <- e.obey(command)
	}
}

// obey is told the time, which only the wire counts: it knows what comes ahead of a timer of the same time.
func (e *tcpEnd) obey(command endCommand) endAnswer {
	var answer endAnswer
	e.now = command.now
	if command.goesOff {
		e.goOff()
		e.tell(&answer.out)
	} else {
		answer.out = e.do(command.op)
	}
	answer.dueAt = e.dueAt()
	return answer
}

func (w *pairWire) do(op PairOp) PairOut {
	var out PairOut
	switch {
	case w.isSpent:
		out.Code = ErrFull
	case op.Side == SideWait:
		out.Code = w.wait(op.Wait)
	case (op.Side == SideA || op.Side == SideB) && isPairKind(op.Op.Kind):
		told := w.command(op.Side, endCommand{op: op.Op})
		out.Code, out.Took, out.Data = told.Code, told.Took, told.Data
	default:
		out.Code = ErrForm
	}
	out.StateA = w.ends[SideA].state
	out.StateB = w.ends[SideB].state
	out.Sent, out.Come, out.Bad = w.sent, w.come, w.bad
	return out
}

// isPairKind leaves out segments and passing time, which are the wire's to tell.
func isPairKind(kind int64) bool {
	return kind >= TcpDoConnect && kind <= TcpDoAbort || kind == TcpDoTooBig
}

// command tells an end what to do now, and sends what it sends by that.
func (w *pairWire) command(side int64, command endCommand) TcpOut {
	e := w.ends[side]
	command.now = w.now
	e.commands <- command
	answer := <-e.answers
	e.state = answer.out.State
	e.dueAt = answer.dueAt
	for _, s := range answer.out.Sent {
		w.send(side, s)
	}
	return answer.out
}

func otherSide(side int64) int64 { return SideA + SideB - side }

func (w *pairWire) send(side int64, s Segment) {
	fate := w.nextFate()
	w.sent++
	if fate.Lose {
		return
	}
	to := otherSide(side)
	b, _ := EncodeSegment(s, w.ends[side].addr, w.ends[to].addr)
	if fate.Spoil > 0 {
		turnBit(b, fate.Spoil-1)
	}
	at := w.now
	for range fate.Copies + 1 {
		at += fate.Delay
		w.onTheWay.add(at, delivery{to: to, bytes: b})
	}
}

func (w *pairWire) nextFate() Fate {
	if w.sent < int64(len(w.fates)) {
		return w.fates[w.sent]
	}
	return Fate{Delay: w.delay}
}

// turnBit counts from the highest bit of the first byte on, and behind the last one from there again.
func turnBit(b []byte, bit int64) {
	bit %= int64(len(b)) * byteBits
	b[bit/byteBits] ^= highestBit >> (bit % byteBits)
}

func (w *pairWire) wait(ms int64) int64 {
	if !mayPass(w.now, ms) {
		return ErrForm
	}
	end := w.now + ms
	for at := w.nextAt(); at <= end; at = w.nextAt() {
		if w.steps == MaxSteps {
			w.isSpent = true
			return ErrFull
		}
		w.steps++
		w.now = at
		w.step()
	}
	w.now = end
	return OK
}

func (w *pairWire) nextAt() int64 {
	return min(w.onTheWay.nextAt(), w.ends[SideA].dueAt, w.ends[SideB].dueAt)
}

// step does the first of what there is to be done now.
func (w *pairWire) step() {
	switch w.now {
	case w.onTheWay.nextAt():
		w.deliver(w.onTheWay.take())
	case w.ends[SideA].dueAt:
		w.command(SideA, endCommand{goesOff: true})
	case w.ends[SideB].dueAt:
		w.command(SideB, endCommand{goesOff: true})
	}
}

func (w *pairWire) deliver(d delivery) {
	w.come++
	s, code := DecodeSegment(d.bytes, w.ends[otherSide(d.to)].addr, w.ends[d.to].addr)
	if code != OK {
		w.bad++
		return
	}
	w.command(d.to, endCommand{op: TcpOp{Kind: TcpDoSegment, Segment: s}})
}

func (q *timeQueue[T]) isAhead(i, k int) bool {
	a, b := q.items[i], q.items[k]
	return a.at < b.at || a.at == b.at && a.number < b.number
}

func (q *timeQueue[T]) swap(i, k int) { q.items[i], q.items[k] = q.items[k], q.items[i] }

// nextAt is behind all times while there is nothing.
func (q *timeQueue[T]) nextAt() int64 {
	if len(q.items) == 0 {
		return afterAllTimes
	}
	return q.items[0].at
}

func (q *timeQueue[T]) add(at int64, what T) {
	q.items = append(q.items, timed[T]{at: at, number: q.added, what: what})
	q.added++
	q.rise(len(q.items) - 1)
}

// take must not be asked of an empty queue.
func (q *timeQueue[T]) take() T {
	first := q.items[0].what
	last := len(q.items) - 1
	q.swap(0, last)
	// What has been taken is not kept alive by the room behind the others.
	q.items[last] = timed[T]{}
	q.items = q.items[:last]
	q.sink(0)
	return first
}

func (q *timeQueue[T]) rise(i int) {
	for up := (i - 1) / 2; i > 0 && q.isAhead(i, up); up = (i - 1) / 2 {
		q.swap(i, up)
		i = up
	}
}

func (q *timeQueue[T]) sink(i int) {
	for {
		first := i
		for below := 2*i + 1; below <= 2*i+2 && below < len(q.items); below++ {
			if q.isAhead(below, first) {
				first = below
			}
		}
		if first == i {
			return
		}
		q.swap(i, first)
		i = first
	}
}
