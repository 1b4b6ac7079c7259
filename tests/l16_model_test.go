package tests

import (
	"bytes"
	"slices"

	"loop.example/g00003/impl"
)

// This file has chapter 17 once more, step for step in the document's words and numbers, on the exported functions of
// the chapters ahead of it and on the plain receiving side of the tests of chapter 13.

const (
	segFin = 1 << iota
	segSyn
	segRst
	segPsh
	segAck
	segUrg
)

// modelTimers are in the order of 17.1.
var modelTimers = []string{"resend", "probe", "late", "keep", "gone"}

// modelEnd has all that 17.1 names; places are counted as the document counts them.
type modelEnd struct {
	c                    impl.TcpConfig
	now, state, reason   int64
	fresh                bool
	written              []byte
	shut                 bool
	board                impl.Board
	rto                  impl.Rto
	cong                 impl.Cong
	tries, silent        int64
	mode, recover        int64
	doubles              int64
	recv                 *modelRecv
	irs, readBytes       int64
	finAt                int64
	finTaken             bool
	edge                 int64
	window, largest      int64
	windowS, windowA     int64
	size                 int64
	hasScale, sackOK     bool
	scale                int64
	timers               map[string]int64
	owed                 int
	lastSent             int64
	probes, keeps        int64
	row, rowSent         int64
	sent                 []impl.Segment
	dueBare, wasReceived bool
	unshifted            bool
}

func newModelEnd(c impl.TcpConfig) *modelEnd {
	cong, _ := impl.NewCong(c.Mss)
	return &modelEnd{c: c, fresh: true, rto: impl.NewRto(), cong: cong, finAt: -1, lastSent: -1, timers: map[string]int64{}}
}

func (m *modelEnd) isOpen() bool { return m.state >= 4 }

// e is the place behind the last written byte.
func (m *modelEnd) e() int64 { return 1 + int64(len(m.written)) }

func (m *modelEnd) una() int64 { return m.board.Una }

func (m *modelEnd) nxt() int64 { return m.board.Nxt }

func (m *modelEnd) finSent() bool { return m.shut && m.nxt() == m.e()+1 }

func (m *modelEnd) number(place int64) int64 { return (m.c.Iss + place) % allSeqs }

func (m *modelEnd) unread() int64 {
	if m.recv == nil {
		return 0
	}
	return int64(len(m.recv.unread))
}

// next is the place of the receiving side's next.
func (m *modelEnd) next() int64 { return 1 + m.readBytes + m.unread() }

func (m *modelEnd) r() int64 {
	if m.finTaken {
		return m.next() + 1
	}
	return m.next()
}

func (m *modelEnd) otherNumber(place int64) int64 { return (m.irs + place) % allSeqs }

func (m *modelEnd) windowNow() int64 { return max(0, m.edge-m.r()) }

func (m *modelEnd) on(name string, wait int64) { m.timers[name] = m.now + wait }

func (m *modelEnd) onIfOff(name string, wait int64) {
	if _, on := m.timers[name]; !on {
		m.on(name, wait)
	}
}

func (m *modelEnd) off(name string) { delete(m.timers, name) }

func (m *modelEnd) shift() int64 {
	var shift int64
	for m.c.RecvSize>>shift > 65535 {
		shift++
	}
	return shift
}

func (m *modelEnd) countingShift() int64 {
	if m.hasScale {
		return m.shift()
	}
	return 0
}

func (m *modelEnd) countingScale() int64 {
	if m.hasScale {
		return m.scale
	}
	return 0
}

func (m *modelEnd) put(s impl.Segment) {
	s.SrcPort, s.DstPort = m.c.LocalPort, m.c.RemotePort
	m.sent = append(m.sent, s)
}

// edgeGap is M of 17.2 number 1, and whether the Edge may move by it.
func (m *modelEnd) edgeGap() (int64, bool) {
	gap := 1 + m.readBytes + m.c.RecvSize - m.edge
	return gap, gap >= min(2*m.c.Mss, (m.c.RecvSize+1)/2)
}

func (m *modelEnd) ordinary(place, flags int64, data []byte) {
	if gap, may := m.edgeGap(); may && !m.finTaken {
		m.edge += gap
	}
	s := impl.Segment{Seq: m.number(place), Ack: m.otherNumber(m.r()), Flags: segAck | flags, Data: data}
	s.Window = min(m.windowNow()>>m.countingShift(), 65535)
	if len(data) == 0 && m.sackOK {
		s.Sacks = m.recv.sacks()
	}
	m.put(s)
	m.owed = 0
	m.off("late")
}

func (m *modelEnd) bare() { m.ordinary(m.nxt(), 0, nil) }

func (m *modelEnd) probe() { m.ordinary(m.nxt()-1, 0, nil) }

func (m *modelEnd) syn() {
	s := impl.Segment{Seq: m.c.Iss, Flags: segSyn, Window: min(m.c.RecvSize, 65535), Mss: m.c.Mss, HasScale: true, SackOK: true}
	if m.state == 3 {
		s.Flags, s.Ack = segSyn|segAck, m.otherNumber(m.r())
		s.HasScale, s.SackOK = m.hasScale, m.sackOK
	}
	if s.HasScale {
		s.Scale = m.shift()
	}
	m.put(s)
}

func (m *modelEnd) challenge() {
	if m.now-m.row >= 1000 {
		m.row, m.rowSent = m.now, 0
	}
	if m.rowSent < 10 {
		m.rowSent++
		m.bare()
	}
}

func (m *modelEnd) die(reason int64) {
	m.state, m.reason = 0, reason
	m.timers = map[string]int64{}
	m.board = impl.Board{}
	m.written = nil
	if m.recv != nil {
		m.recv.held = map[int64]modelByte{}
	}
}

func (m *modelEnd) unsent() int64 { return m.e() - min(max(m.una(), 1), m.e()) }

func (m *modelEnd) do(op impl.TcpOp) impl.TcpOut {
	var out impl.TcpOut
	switch op.Kind {
	case 1:
		out.Code = m.connect()
	case 2:
		out.Code = m.listen()
	case 3:
		out.Took, out.Code = m.write(op.Data)
	case 4:
		out.Data, out.Code = m.read(op.N)
	case 5:
		out.Code = m.doShut()
	case 6:
		out.Code = m.abort()
	case 7:
		_, code := impl.EncodeSegment(op.Segment, 0, 0)
		if code != impl.OK || op.Segment.SrcPort != m.c.RemotePort || op.Segment.DstPort != m.c.LocalPort {
			out.Code = impl.ErrForm
		} else {
			m.come(op.Segment)
		}
	case 8:
		out.Code = m.pass(op.Wait)
	case 9:
		out.Code = m.tooBig(op.N)
	default:
		out.Code = impl.ErrForm
	}
	out.Sent, m.sent = m.sent, nil
	out.State, out.Unread = m.state, m.unread()
	if m.state > 1 {
		out.Cwnd, out.Flight = m.cong.Cwnd, m.nxt()-m.una()
	}
	if m.state > 0 {
		out.Unsent = m.unsent()
	}
	return out
}

func (m *modelEnd) connect() int64 {
	if !m.fresh {
		return impl.ErrState
	}
	m.fresh, m.state = false, 2
	m.board, _ = impl.BoardSend(m.board, 1, m.now)
	m.syn()
	m.on("resend", m.rto.Rto)
	return impl.OK
}

func (m *modelEnd) listen() int64 {
	if !m.fresh {
		return impl.ErrState
	}
	m.fresh, m.state = false, 1
	return impl.OK
}

func (m *modelEnd) closedCode() int64 {
	if m.reason != 0 {
		return m.reason
	}
	return impl.ErrState
}

func (m *modelEnd) write(data []byte) (int64, int64) {
	if len(data) > 262144 {
		return 0, impl.ErrForm
	}
	if m.state == 0 {
		return 0, m.closedCode()
	}
	if m.shut {
		return 0, impl.ErrState
	}
	took := min(int64(len(data)), m.c.SendSize-m.unsent())
	if len(data) >= 1 && took == 0 {
		return 0, impl.ErrFull
	}
	m.written = append(m.written, data[:took]...)
	m.sending()
	return took, impl.OK
}

func (m *modelEnd) read(n int64) ([]byte, int64) {
	if n < 1 {
		return nil, impl.ErrForm
	}
	if m.unread() == 0 {
		if m.finTaken {
			return nil, impl.ErrClosed
		}
		if m.state == 0 {
			return nil, m.closedCode()
		}
		return nil, impl.ErrWait
	}
	data := m.recv.do(impl.RecvOp{Kind: 2, N: n}).Data
	m.readBytes += int64(len(data))
	if _, may := m.edgeGap(); may && (m.state == 4 || m.state == 5 || m.state == 6) {
		m.bare()
	}
	return data, impl.OK
}

func (m *modelEnd) doShut() int64 {
	switch m.state {
	case 1, 2:
		m.die(impl.ErrClosed)
		return impl.OK
	case 3:
		if m.shut {
			return impl.ErrState
		}
	case 4:
		m.state = 5
	case 7:
		m.state = 9
	default:
		return impl.ErrState
	}
	m.shut = true
	m.sending()
	return impl.OK
}

func (m *modelEnd) abort() int64 {
	if m.state == 0 {
		return impl.ErrState
	}
	if m.state >= 3 && m.state != 10 {
		m.put(impl.Segment{Seq: m.number(m.nxt()), Ack: m.otherNumber(m.r()), Flags: segRst | segAck})
	}
	m.die(impl.ErrClosed)
	return impl.OK
}

func (m *modelEnd) pass(wait int64) int64 {
	if wait < 0 || wait > 1000000000-m.now {
		return impl.ErrForm
	}
	end := m.now + wait
	for {
		first, at := m.firstDue()
		if first == "" || at > end {
			m.now = end
			return impl.OK
		}
		m.goesOffAt(first, at)
	}
}

// firstDue is the timer that goes off first, and when; with none on it has no name.
func (m *modelEnd) firstDue() (string, int64) {
	first := ""
	for _, name := range modelTimers {
		if at, on := m.timers[name]; on && (first == "" || at < m.timers[first]) {
			first = name
		}
	}
	return first, m.timers[first]
}

func (m *modelEnd) goesOffAt(name string, at int64) {
	m.now = at
	m.off(name)
	m.goesOff(name)
}

func (m *modelEnd) tooBig(n int64) int64 {
	if n < 68 || n > 65535 {
		return impl.ErrForm
	}
	if !m.isOpen() || m.state == 10 {
		return impl.ErrState
	}
	if size := max(n-40, 64); size < m.size {
		m.size = size
		m.cong, _ = impl.CongMss(m.cong, size)
		m.board, _ = impl.BoardTimeout(m.board)
		if cut, code := impl.BoardSplit(m.board, size); code == impl.OK {
			m.board = cut
		}
		m.sending()
	}
	return impl.OK
}

func (m *modelEnd) refusal(s impl.Segment) {
	if s.Flags&segRst != 0 {
		return
	}
	if s.Flags&segAck != 0 {
		m.put(impl.Segment{Seq: s.Ack, Flags: segRst})
		return
	}
	m.put(impl.Segment{Ack: (s.Seq + impl.SegmentLength(s)) % allSeqs, Flags: segRst | segAck})
}

func (m *modelEnd) takeSyn(s impl.Segment) {
	m.irs = s.Seq
	m.recv = newModelRecv((s.Seq+1)%allSeqs, m.c.RecvSize)
	m.edge = min(1+m.c.RecvSize, 65536)
	m.window, m.largest, m.windowS, m.windowA = s.Window, s.Window, 0, 0
	m.hasScale, m.scale, m.sackOK = s.HasScale, s.Scale, s.SackOK
	own := s.Mss
	if own == 0 {
		own = 536
	}
	m.size = max(64, min(m.c.Mss, own))
}

func (m *modelEnd) open() {
	m.state = 4
	if m.shut {
		m.state = 5
	}
	m.cong, _ = impl.NewCong(m.size)
	if m.c.Keep > 0 {
		m.on("keep", m.c.Keep)
	}
}

func (m *modelEnd) come(s impl.Segment) {
	switch m.state {
	case 0:
		m.refusal(s)
	case 1:
		m.comeListen(s)
	case 2:
		m.comeSynSent(s)
	default:
		m.comeLinked(s)
	}
}

func (m *modelEnd) comeListen(s impl.Segment) {
	if s.Flags&segRst != 0 {
		return
	}
	if s.Flags&segAck != 0 {
		m.refusal(s)
		return
	}
	if s.Flags&segSyn == 0 {
		return
	}
	m.takeSyn(s)
	m.state = 3
	m.board, _ = impl.BoardSend(m.board, 1, m.now)
	m.syn()
	m.on("resend", m.rto.Rto)
}

func (m *modelEnd) comeSynSent(s impl.Segment) {
	ack := s.Flags&segAck != 0
	if ack && s.Ack != m.number(1) {
		m.refusal(s)
		return
	}
	if s.Flags&segRst != 0 {
		if ack {
			m.die(impl.ErrRefused)
		}
		return
	}
	if s.Flags&segSyn == 0 {
		return
	}
	m.takeSyn(s)
	if !ack {
		m.state = 3
		m.board, _ = impl.BoardTimeout(m.board)
		m.board, _, _ = impl.BoardAgain(m.board, m.now)
		m.syn()
		m.on("resend", m.rto.Rto)
		return
	}
	board, news, _ := impl.BoardAck(m.board, 1, nil)
	m.board = board
	m.sample(news.Sample)
	m.tries = 0
	m.off("resend")
	m.open()
	m.dueBare = true
	m.sendDue()
}

func (m *modelEnd) sample(at int64) {
	if at >= 0 {
		m.rto, _ = impl.RtoSample(m.rto, min(m.now-at, 1000000))
	}
}

// sendDue is number 15 of 17.4.
func (m *modelEnd) sendDue() {
	count := len(m.sent)
	m.sending()
	if m.dueBare && len(m.sent) == count {
		m.bare()
	}
	m.dueBare = false
}

// comeLinked has the numbers 4 to 10.
func (m *modelEnd) comeLinked(s impl.Segment) {
	m.keeps = 0
	if _, on := m.timers["keep"]; on {
		m.on("keep", m.c.Keep)
	}
	if s.Flags&segUrg != 0 {
		m.challenge()
		return
	}
	m.unshifted = false
	if m.state == 3 && s.Flags&segSyn != 0 && s.Flags&segAck != 0 && s.Seq == m.irs {
		s.Flags -= segSyn
		s.Seq = (s.Seq + 1) % allSeqs
		m.unshifted = true
	}
	if m.state == 10 && s.Flags&segRst != 0 {
		return
	}
	place := m.r() + placeFrom(m.otherNumber(m.r()), s.Seq)
	if !m.fits(place, impl.SegmentLength(s)) {
		if s.Flags&segRst == 0 {
			m.challenge()
			if s.Flags&segFin != 0 && m.state == 10 {
				m.on("gone", 60000)
			}
		}
		return
	}
	if s.Flags&segRst != 0 {
		if place != m.r() {
			m.challenge()
		} else if m.state == 3 {
			m.die(impl.ErrRefused)
		} else {
			m.die(impl.ErrReset)
		}
		return
	}
	if s.Flags&segSyn != 0 {
		m.challenge()
		return
	}
	if s.Flags&segAck != 0 {
		m.comeAck(s, place)
	}
}

func (m *modelEnd) fits(place, length int64) bool {
	r, w := m.r(), m.windowNow()
	in := func(p int64) bool { return w > 0 && r <= p && p <= r+w-1 }
	if length == 0 {
		return place == r || in(place)
	}
	return in(place) || in(place+length-1)
}

// comeAck has the numbers 11 to 15.
func (m *modelEnd) comeAck(s impl.Segment, place int64) {
	a := m.una() + placeFrom(m.number(m.una()), s.Ack)
	m.wasReceived = m.state == 3
	if m.wasReceived {
		if a != 1 {
			m.refusal(s)
			return
		}
		m.open()
	} else if a > m.nxt() || a < m.una()-m.largest {
		m.challenge()
		return
	}
	if a >= m.una() {
		before := m.una()
		m.acknowledges(s, place, a)
		if m.shut && before <= m.e() && m.una() == m.e()+1 {
			switch m.state {
			case 5:
				m.state = 6
			case 8:
				m.state = 10
				m.on("gone", 60000)
			case 9:
				m.die(0)
				return
			}
		}
	}
	m.dueBare = false
	if m.state == 4 || m.state == 5 || m.state == 6 {
		m.takeData(s, place)
		m.takeFin(s, place)
	}
	m.sendDue()
}

func (m *modelEnd) takeData(s impl.Segment, place int64) {
	if len(s.Data) == 0 {
		return
	}
	held, unread := len(m.recv.held), m.unread()
	m.recv.take(m.otherNumber(place), s.Data)
	if held != 0 || m.unread() == unread || len(m.recv.held) != 0 {
		m.dueBare = true
		return
	}
	m.owed++
	switch m.owed {
	case 1:
		m.onIfOff("late", 40)
	case 2:
		m.dueBare = true
	}
}

func (m *modelEnd) takeFin(s impl.Segment, place int64) {
	if f := place + int64(len(s.Data)); s.Flags&segFin != 0 && m.finAt < 0 && f <= m.r()+m.recv.room() {
		m.finAt = f
	}
	if m.finAt < 0 || m.r() < m.finAt {
		return
	}
	m.finTaken = true
	m.dueBare = true
	switch m.state {
	case 4:
		m.state = 7
	case 5:
		m.state = 8
	case 6:
		m.state = 10
		m.on("gone", 60000)
	}
}

func (m *modelEnd) acknowledges(s impl.Segment, place, a int64) {
	var sacks []impl.Stretch
	if m.sackOK {
		una, number := m.una(), m.number(m.una())
		for _, x := range s.Sacks {
			sacks = append(sacks, impl.Stretch{From: una + placeFrom(number, x.From), To: una + placeFrom(number, x.To)})
		}
	}
	board, news, code := impl.BoardAck(m.board, a, sacks)
	if code != impl.OK {
		panic("a board that is not valid")
	}
	m.board = board
	m.silent = 0
	if news.Acked > 0 {
		m.sample(news.Sample)
		m.tries, m.doubles = 0, 0
		m.off("resend")
		if m.una() != m.nxt() {
			m.on("resend", m.rto.Rto)
		}
		if !m.wasReceived && m.mode != 1 {
			m.cong, _ = impl.CongAck(m.cong, news.Acked)
		}
		if m.mode != 0 && a >= m.recover {
			m.mode = 0
		}
	}
	before := m.window
	if place > m.windowS || place == m.windowS && a >= m.windowA {
		m.window = s.Window
		if !m.unshifted {
			m.window <<= m.countingScale()
		}
		m.largest = max(m.largest, m.window)
		m.windowS, m.windowA = place, a
	}
	m.losses(s, news, m.window == before)
}

func (m *modelEnd) losses(s impl.Segment, news impl.BoardNews, sameWindow bool) {
	var lost int64
	if m.sackOK {
		m.board, lost, _ = impl.BoardLose(m.board)
	} else {
		if news.Acked == 0 && len(s.Data) == 0 && s.Flags&segFin == 0 && sameWindow && m.una() != m.nxt() {
			m.doubles++
		}
		if m.doubles >= 3 && m.mode == 0 || m.mode == 1 && news.Acked > 0 {
			m.board, lost, _ = impl.BoardFirst(m.board)
		}
	}
	if lost > 0 && m.mode == 0 {
		m.mode, m.recover = 1, m.nxt()
		m.cong, _ = impl.CongLoss(m.cong, m.nxt()-m.una())
	}
}

func (m *modelEnd) pipe() int64 {
	pipe := impl.BoardPipe(m.board)
	if !m.sackOK {
		pipe = max(0, pipe-m.doubles*m.size)
	}
	return pipe
}

func (m *modelEnd) sending() {
	if !m.isOpen() || m.state == 6 || m.state == 10 {
		if m.una() == m.nxt() {
			m.off("resend")
		}
		m.off("probe")
		return
	}
	if m.una() == m.nxt() && m.lastSent >= 0 && m.now-m.lastSent >= m.rto.Rto {
		m.cong, _ = impl.CongIdle(m.cong)
	}
	for m.sendOne() {
	}
	if m.una() == m.nxt() {
		m.off("resend")
	}
	if m.una() == m.nxt() && (m.e()-m.nxt() > 0 || m.shut && !m.finSent()) {
		m.onIfOff("probe", m.rto.Rto)
	} else {
		m.off("probe")
		m.probes = 0
	}
}

func (m *modelEnd) sendOne() bool {
	pipe := m.pipe()
	allows := func(n int64) bool { return pipe == 0 || pipe+n <= m.cong.Cwnd }
	for _, p := range m.board.Pieces {
		if p.Lost {
			if !allows(p.To - p.From) {
				return false
			}
			board, again, _ := impl.BoardAgain(m.board, m.now)
			m.board = board
			m.piece(again)
			return true
		}
	}
	d, w := m.e()-m.nxt(), m.una()+m.window-m.nxt()
	if d < 0 || w < 0 || m.finSent() {
		return false
	}
	n := min(m.size, d, w)
	fin := m.shut && n == d && w >= n+1
	length := n
	if fin {
		length++
	}
	reason := n == m.size
	reason = reason || n == d && n > 0 && (m.c.NoDelay || m.una() == m.nxt() || fin)
	reason = reason || n > 0 && 2*n >= m.largest
	reason = reason || n == 0 && fin
	if !reason || !allows(length) || len(m.board.Pieces) == 4096 {
		return false
	}
	board, code := impl.BoardSend(m.board, length, m.now)
	if code != impl.OK {
		panic("a piece that cannot be sent")
	}
	m.board = board
	m.piece(board.Pieces[len(board.Pieces)-1])
	return true
}

func (m *modelEnd) piece(p impl.Piece) {
	var flags int64
	to := min(p.To, m.e())
	data := bytes.Clone(m.written[p.From-1 : to-1])
	if len(data) > 0 && to == m.e() {
		flags |= segPsh
	}
	if m.shut && p.To-1 == m.e() {
		flags |= segFin
	}
	m.ordinary(p.From, flags, data)
	m.lastSent = m.now
	m.onIfOff("resend", m.rto.Rto)
}

func (m *modelEnd) goesOff(name string) {
	switch name {
	case "resend":
		m.resend()
	case "probe":
		m.probing()
	case "late":
		m.bare()
	case "keep":
		m.keepUp()
	case "gone":
		m.die(0)
	}
}

func (m *modelEnd) resend() {
	if m.tries == 8 {
		m.die(impl.ErrTimeout)
		return
	}
	if m.isOpen() && m.tries == 0 {
		m.cong, _ = impl.CongTimeout(m.cong, m.nxt()-m.una())
	}
	m.tries++
	m.rto, _ = impl.RtoBackoff(m.rto)
	m.board, _ = impl.BoardTimeout(m.board)
	m.doubles, m.mode, m.recover = 0, 2, m.nxt()
	m.on("resend", m.rto.Rto)
	if m.isOpen() {
		m.sending()
		return
	}
	m.board, _, _ = impl.BoardAgain(m.board, m.now)
	m.syn()
}

func (m *modelEnd) probing() {
	if m.silent == 8 {
		m.die(impl.ErrTimeout)
		return
	}
	m.silent++
	d, w := m.e()-m.nxt(), m.una()+m.window-m.nxt()
	if d > 0 && w > 0 {
		board, _ := impl.BoardSend(m.board, min(m.size, d, w), m.now)
		m.board = board
		m.piece(board.Pieces[len(board.Pieces)-1])
		m.off("probe")
		m.probes = 0
		return
	}
	m.probe()
	m.probes++
	wait := m.rto.Rto
	for range min(m.probes, 20) {
		wait *= 2
	}
	m.on("probe", min(wait, 60000))
}

func (m *modelEnd) keepUp() {
	if m.state != 4 && m.state != 7 {
		return
	}
	if m.una() != m.nxt() {
		m.on("keep", m.c.Keep)
		return
	}
	if m.keeps == 5 {
		m.die(impl.ErrTimeout)
		return
	}
	m.keeps++
	m.probe()
	m.on("keep", 10000)
}

func sameTcpOut(a, b impl.TcpOut) bool {
	return a.Code == b.Code && a.Took == b.Took && bytes.Equal(a.Data, b.Data) && slices.EqualFunc(a.Sent, b.Sent, sameSegment) &&
		a.State == b.State && a.Cwnd == b.Cwnd && a.Flight == b.Flight && a.Unsent == b.Unsent && a.Unread == b.Unread
}

func sameTcpOuts(a, b []impl.TcpOut) bool { return slices.EqualFunc(a, b, sameTcpOut) }
