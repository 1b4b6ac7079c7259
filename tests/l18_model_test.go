package tests

import (
	"bytes"
	"encoding/binary"
	"hash/crc32"
	"slices"

	"loop.example/g00003/impl"
)

// This file has chapter 19 once more, step for step in the document's words and numbers: lists that are gone through, on
// the caches, the putting together, the filters and the ends of the tests of the chapters ahead.

// modelSocket is of one of four kinds: datagrams, echoes, listening, stream.
type modelSocket struct {
	kind    string
	port    int64
	gone    bool
	refused bool
	waits   []modelParcel
	// What follows is a stream's; listener is the number of the listening socket whose it is, or 0.
	own, other place
	end        *modelEnd
	listener   int64
	accepted   bool
}

type modelParcel struct {
	from place
	data []byte
}

// modelTransit is a packet that goes out, and the link at which it came in, or -1.
type modelTransit struct {
	p    impl.Packet
	link int
}

type modelWaiting struct {
	ticket int64
	op     impl.HostOp
}

type modelHost struct {
	c                impl.HostConfig
	now, place, ids  int64
	caches           []*modelCache
	reasm            modelReasm
	filter           modelFilter
	routes           []impl.Route
	sockets          []*modelSocket
	numbered         []modelTransit
	waiting          []modelWaiting
	frames           []impl.HostFrame
	events           []impl.HostEvent
	seen             map[string]int
	together, stepAt int64
}

func newModelHost(c impl.HostConfig) *modelHost {
	m := &modelHost{c: c, filter: modelFilter{rules: c.Rules}, seen: map[string]int{}, stepAt: -1}
	for i, l := range c.Links {
		m.caches = append(m.caches, &modelCache{own: impl.ArpConfig{Mac: l.Mac, Addr: l.Addr}})
		m.routes = append(m.routes, impl.Route{Prefix: l.Prefix, Link: int64(i)})
	}
	m.routes = append(m.routes, c.Routes...)
	return m
}

func (m *modelHost) isOwn(addr int64) bool {
	return slices.ContainsFunc(m.c.Links, func(l impl.HostLink) bool { return l.Addr == addr })
}

func (m *modelHost) isBroadcast(addr int64) bool {
	return slices.ContainsFunc(m.c.Links, func(l impl.HostLink) bool { return impl.Broadcast(l.Prefix) == addr })
}

func (m *modelHost) reach(addr int64) (impl.Route, bool) {
	if impl.AddrKind(addr) != impl.AddrHost || m.isOwn(addr) || m.isBroadcast(addr) {
		return impl.Route{}, false
	}
	return modelFindRoute(m.routes, addr)
}

func (m *modelHost) do(op impl.HostOp) impl.HostOut {
	m.frames, m.events = nil, nil
	out := m.try(op)
	if op.Block && slices.Contains([]int64{6, 9, 10, 11}, op.Kind) && (out.Code == impl.ErrWait || out.Code == impl.ErrFull) {
		if len(m.waiting) < 32 {
			m.waiting = append(m.waiting, modelWaiting{m.place, op})
			out.Waits = true
		} else {
			m.seen["no room to wait"]++
		}
	}
	m.tryAgain()
	m.place++
	for _, s := range m.sockets {
		out.Socks += oneIf(!s.gone)
	}
	out.Waiting = int64(len(m.waiting))
	out.Frames, out.Events = m.frames, m.events
	return out
}

func (m *modelHost) tryAgain() {
	var still []modelWaiting
	for _, w := range m.waiting {
		out := m.try(w.op)
		if out.Code == impl.ErrWait || out.Code == impl.ErrFull {
			still = append(still, w)
			continue
		}
		m.seen["waited"]++
		m.events = append(m.events, impl.HostEvent{
			Ticket: w.ticket, Code: out.Code, Sock: out.Sock, Took: out.Took, Addr: out.Addr, Port: out.Port, Data: out.Data,
		})
	}
	m.waiting = still
}

func coded(code int64) impl.HostOut { return impl.HostOut{Code: code} }

func (m *modelHost) try(op impl.HostOp) impl.HostOut {
	switch op.Kind {
	case 1:
		if op.Link < 0 || op.Link >= int64(len(m.c.Links)) {
			return coded(impl.ErrForm)
		}
		m.frameComes(int(op.Link), op.Data)
		return impl.HostOut{}
	case 2:
		if op.Wait < 0 || op.Wait > lastTime-m.now {
			return coded(impl.ErrForm)
		}
		m.pass(op.Wait)
		return impl.HostOut{}
	case 3:
		return m.makes("datagrams", op.Port, 1)
	case 4:
		return m.makes("echoes", op.Port, 0)
	case 7:
		return m.makes("listening", op.Port, 1)
	case 8:
		return m.connects(op.Addr, op.Port)
	}
	if op.Kind < 1 || op.Kind > 14 {
		return coded(impl.ErrForm)
	}
	kinds := map[int64][]string{
		5: {"datagrams", "echoes"}, 6: {"datagrams", "echoes"}, 9: {"listening"},
		10: {"stream"}, 11: {"stream"}, 12: {"stream"}, 13: {"stream"}, 14: {"datagrams", "echoes", "listening", "stream"},
	}
	if op.Sock < 1 || op.Sock > int64(len(m.sockets)) || m.sockets[op.Sock-1].gone || !slices.Contains(kinds[op.Kind], m.sockets[op.Sock-1].kind) {
		return coded(impl.ErrState)
	}
	return m.uses(m.sockets[op.Sock-1], op)
}

func (m *modelHost) uses(s *modelSocket, op impl.HostOp) impl.HostOut {
	switch op.Kind {
	case 5:
		return coded(m.sends(s, op.Addr, op.Port, op.Data))
	case 6:
		return m.receives(s)
	case 9:
		return m.accepts(op.Sock)
	case 14:
		m.drops(s)
		return impl.HostOut{}
	}
	kind := map[int64]int64{10: impl.TcpDoWrite, 11: impl.TcpDoRead, 12: impl.TcpDoShut, 13: impl.TcpDoAbort}[op.Kind]
	out := m.does(s, impl.TcpOp{Kind: kind, N: op.N, Data: op.Data})
	return impl.HostOut{Code: out.Code, Took: out.Took, Data: out.Data}
}

// taken is whether a socket that is not gone has this port; streams that are closed have none.
func (m *modelHost) taken(kind string, port int64) bool {
	return slices.ContainsFunc(m.sockets, func(s *modelSocket) bool {
		return !s.gone && s.kind == kind && s.port == port && (s.end == nil || s.end.state != 0)
	})
}

func (m *modelHost) makes(kind string, port, least int64) impl.HostOut {
	if port == 0 && kind == "datagrams" {
		for port = 49152; m.taken(kind, port); port++ {
		}
	}
	if port < least || port > 65535 {
		return coded(impl.ErrForm)
	}
	if m.taken(kind, port) {
		return coded(impl.ErrPort)
	}
	if len(m.sockets) == 128 {
		return coded(impl.ErrFull)
	}
	m.sockets = append(m.sockets, &modelSocket{kind: kind, port: port})
	return impl.HostOut{Sock: int64(len(m.sockets)), Port: port}
}

func (m *modelHost) connects(addr, port int64) impl.HostOut {
	if port < 1 || port > 65535 {
		return coded(impl.ErrForm)
	}
	r, can := m.reach(addr)
	if !can {
		return coded(impl.ErrRoute)
	}
	if len(m.sockets) == 128 {
		return coded(impl.ErrFull)
	}
	own := int64(49152)
	for m.taken("stream", own) || m.taken("listening", own) {
		own++
	}
	s := m.makesStream(place{m.c.Links[r.Link].Addr, own}, place{addr, port}, r.Link)
	m.does(s, impl.TcpOp{Kind: impl.TcpDoConnect})
	return impl.HostOut{Sock: int64(len(m.sockets)), Port: own}
}

// issAt is the first sequence number of a stream that is made at a time.
func issAt(secret, now int64, own, other place) int64 {
	b := binary.BigEndian.AppendUint32(nil, uint32(secret))
	b = binary.BigEndian.AppendUint32(b, uint32(own.addr))
	b = binary.BigEndian.AppendUint32(b, uint32(other.addr))
	b = binary.BigEndian.AppendUint16(b, uint16(own.port))
	b = binary.BigEndian.AppendUint16(b, uint16(other.port))
	return (250*now + int64(crc32.ChecksumIEEE(b))) % allSeqs
}

func (m *modelHost) makesStream(own, other place, link int64) *modelSocket {
	end := newModelEnd(impl.TcpConfig{
		LocalPort: own.port, RemotePort: other.port, Iss: issAt(m.c.Secret, m.now, own, other),
		SendSize: 16384, RecvSize: 16384, Mss: m.c.Links[link].Mtu - 40,
	})
	s := &modelSocket{kind: "stream", port: own.port, own: own, other: other, end: end}
	m.sockets = append(m.sockets, s)
	return s
}

func (m *modelHost) does(s *modelSocket, op impl.TcpOp) impl.TcpOut {
	s.end.now = m.now
	out := s.end.do(op)
	for _, segment := range out.Sent {
		m.sendsSegment(s.own, s.other, segment)
	}
	return out
}

func (m *modelHost) sendsSegment(own, other place, s impl.Segment) {
	s.SrcPort, s.DstPort = own.port, other.port
	m.own(impl.Packet{DF: true, Proto: 6, Src: own.addr, Dst: other.addr, Payload: plainSegment(s, way{own.addr, other.addr})})
}

func (m *modelHost) sends(s *modelSocket, addr, port int64, data []byte) int64 {
	if port < 0 || port > 65535 {
		return impl.ErrForm
	}
	r, can := m.reach(addr)
	if !can {
		return impl.ErrRoute
	}
	if len(data) > 65000 {
		return impl.ErrSize
	}
	from := m.c.Links[r.Link].Addr
	if s.kind == "echoes" {
		m.own(impl.Packet{Proto: 1, Src: from, Dst: addr, Payload: plainIcmp(impl.Icmp{Type: 8, Rest: s.port*65536 + port, Body: data})})
	} else {
		d := impl.Datagram{SrcPort: s.port, DstPort: port, Data: data}
		m.own(impl.Packet{Proto: 17, Src: from, Dst: addr, Payload: plainUdp(d, way{from, addr})})
	}
	return impl.OK
}

func (m *modelHost) receives(s *modelSocket) impl.HostOut {
	if s.refused {
		s.refused = false
		m.seen["told of a refusal"]++
		return coded(impl.ErrRefused)
	}
	if len(s.waits) == 0 {
		return coded(impl.ErrWait)
	}
	first := s.waits[0]
	s.waits = s.waits[1:]
	return impl.HostOut{Addr: first.from.addr, Port: first.from.port, Data: first.data}
}

func (m *modelHost) accepts(listener int64) impl.HostOut {
	for i, s := range m.sockets {
		if s.listener == listener && !s.gone && !s.accepted && s.end.state >= 4 {
			s.accepted = true
			m.seen["accepted"]++
			return impl.HostOut{Sock: int64(i + 1), Addr: s.other.addr, Port: s.other.port}
		}
	}
	return coded(impl.ErrWait)
}

func (m *modelHost) drops(s *modelSocket) {
	if s.kind == "stream" && s.end.state != 0 {
		m.does(s, impl.TcpOp{Kind: impl.TcpDoAbort})
	}
	s.gone = true
	number := int64(slices.Index(m.sockets, s) + 1)
	for _, of := range m.sockets {
		if of.listener == number && !of.accepted && !of.gone {
			m.seen["dropped with its listening one"]++
			m.drops(of)
		}
	}
}

func (m *modelHost) own(p impl.Packet) {
	p.TTL, p.ID = 64, m.ids%65536
	m.ids++
	m.goesOut(modelTransit{p, -1})
}

func (m *modelHost) complains(about impl.Packet, link int, kind, code, rest int64) {
	if link >= 0 {
		m.complainsFrom(m.c.Links[link].Addr, about, kind, code, rest)
	}
}

func (m *modelHost) complainsFrom(from int64, about impl.Packet, kind, code, rest int64) {
	p, fault := modelComplain(about, from, kind, code, rest)
	if fault == impl.OK {
		m.seen["complaint "+string(rune('0'+kind/10))+string(rune('0'+kind%10))+"/"+string(rune('0'+code/10))+string(rune('0'+code%10))]++
		m.own(p)
	} else {
		m.seen["no complaint"]++
	}
}

func (m *modelHost) goesOut(x modelTransit) {
	r, found := modelFindRoute(m.routes, x.p.Dst)
	if !found {
		m.complains(x.p, x.link, 3, 0, 0)
		return
	}
	if !m.passes(2, x.p, x.link) {
		return
	}
	mtu := m.c.Links[r.Link].Mtu
	parts, code := modelFragment(x.p, mtu)
	if code != impl.OK {
		m.complains(x.p, x.link, 3, 4, mtu)
		return
	}
	to := r.Via
	if to == 0 {
		to = x.p.Dst
	}
	for _, part := range parts {
		m.numbered = append(m.numbered, modelTransit{part, x.link})
		dropped := m.asksCache(int(r.Link), impl.ArpOp{Kind: impl.ArpSend, Addr: to, Packet: int64(len(m.numbered) - 1)})
		m.seen["no room for it in a cache"] += len(dropped)
	}
}

// passes is whether the filter lets a packet pass.
func (m *modelHost) passes(dir int64, p impl.Packet, link int) bool {
	if !m.c.Filter {
		return true
	}
	m.filter.wait(m.now - m.filter.now)
	verdict := m.filter.do(impl.FilterOp{Kind: impl.FilterTake, Dir: dir, Packet: p}).Verdict
	if verdict == 3 {
		m.complains(p, link, 3, 13, 0)
	}
	return verdict == 1
}

// asksCache has a link's cache do something now, and gives the packets that are dropped.
func (m *modelHost) asksCache(link int, op impl.ArpOp) []modelTransit {
	c := m.caches[link]
	c.now = m.now
	out := c.do(op)
	for _, r := range out.Released {
		m.sendsFrame(link, r.Mac, 2048, plainPacket(m.numbered[r.Packet].p))
	}
	for _, a := range out.Sent {
		to := a.TargetMac
		if a.Op == 1 {
			to = lastMac
		}
		m.sendsFrame(link, to, 2054, plainArp(a))
	}
	var dropped []modelTransit
	for _, n := range out.Dropped {
		dropped = append(dropped, m.numbered[n])
	}
	return dropped
}

func (m *modelHost) sendsFrame(link int, to, kind int64, payload []byte) {
	f := plainFrame(impl.Frame{Dst: to, Src: m.c.Links[link].Mac, Type: kind, Payload: payload})
	m.frames = append(m.frames, impl.HostFrame{Link: int64(link), Bytes: f})
}

func (m *modelHost) frameComes(link int, b []byte) {
	f, code := impl.DecodeFrame(b)
	if code != impl.OK || f.Dst != m.c.Links[link].Mac && f.Dst != lastMac {
		return
	}
	if f.Type == 2054 {
		a, code := impl.DecodeArp(f.Payload)
		if code == impl.OK {
			m.asksCache(link, impl.ArpOp{Kind: impl.ArpHear, Arp: a})
		}
	}
	if f.Type != 2048 {
		return
	}
	p, code := modelDecodeIP(f.Payload)
	if code != impl.OK || impl.AddrKind(p.Src) != impl.AddrHost || m.isOwn(p.Src) {
		return
	}
	if m.isOwn(p.Dst) {
		m.reasm.now = m.now
		put := m.reasm.do(taking(p))
		if put.Done && m.passes(1, put.Packet, link) {
			m.delivers(put.Packet, link)
		}
		return
	}
	if !m.c.Forward || impl.AddrKind(p.Dst) != impl.AddrHost || m.isBroadcast(p.Dst) {
		return
	}
	if !m.passes(1, p, link) {
		return
	}
	if p.TTL <= 1 {
		m.complains(p, link, 11, 0, 0)
		return
	}
	p.TTL--
	m.seen["handed on"]++
	m.goesOut(modelTransit{p, link})
}

func (m *modelHost) delivers(p impl.Packet, link int) {
	switch p.Proto {
	case 1:
		m.deliversIcmp(p)
	case 17:
		d, code := modelDecodeUdp(p.Payload, way{p.Src, p.Dst})
		if code == impl.OK && !m.keeps("datagrams", d.DstPort, modelParcel{place{p.Src, d.SrcPort}, d.Data}) {
			m.complains(p, link, 3, 3, 0)
		}
	case 6:
		s, code := modelDecodeSegment(p.Payload, way{p.Src, p.Dst})
		if code == impl.OK {
			m.deliversSegment(s, place{p.Dst, s.DstPort}, place{p.Src, s.SrcPort})
		}
	default:
		m.complains(p, link, 3, 2, 0)
	}
}

// find gives nil where no socket of the kind, that is not gone, has the port.
func (m *modelHost) find(kind string, port int64) *modelSocket {
	for _, s := range m.sockets {
		if !s.gone && s.kind == kind && s.port == port {
			return s
		}
	}
	return nil
}

// stream gives nil where none that is not closed or gone is between these.
func (m *modelHost) stream(own, other place) *modelSocket {
	for _, s := range m.sockets {
		if !s.gone && s.kind == "stream" && s.end.state != 0 && s.own == own && s.other == other {
			return s
		}
	}
	return nil
}

// keeps is whether there is a socket to have it, be there room or not.
func (m *modelHost) keeps(kind string, port int64, p modelParcel) bool {
	s := m.find(kind, port)
	if s == nil {
		return false
	}
	if len(s.waits) < 32 {
		s.waits = append(s.waits, p)
	} else {
		m.seen["no room for it in a socket"]++
	}
	return true
}

func (m *modelHost) deliversIcmp(p impl.Packet) {
	said, code := modelDecodeIcmp(p.Payload)
	if code != impl.OK {
		return
	}
	switch said.Type {
	case 8:
		said.Type = 0
		m.own(impl.Packet{Proto: 1, Src: p.Dst, Dst: p.Src, Payload: plainIcmp(said)})
	case 0:
		m.keeps("echoes", said.Rest/65536, modelParcel{place{p.Src, said.Rest % 65536}, said.Body})
	case 3:
		if q, code := modelReadQuote(said.Body); code == impl.OK {
			m.hears(said, q)
		}
	}
}

// hears is told of what is unreachable; of what is exceeded nothing comes.
func (m *modelHost) hears(said impl.Icmp, q impl.Quote) {
	if q.Proto == 17 && m.isOwn(q.Src) && said.Code != 4 {
		if s := m.find("datagrams", q.SrcPort); s != nil {
			s.refused = true
			m.seen["refused"]++
		}
	}
	if q.Proto != 6 {
		return
	}
	s := m.stream(place{q.Src, q.SrcPort}, place{q.Dst, q.DstPort})
	if s == nil {
		return
	}
	at := s.end.una() + placeFrom(s.end.number(s.end.una()), q.Seq)
	if at < s.end.una() || at > s.end.nxt()-1 {
		m.seen["quoted, but not on the way"]++
		return
	}
	if said.Code != 4 {
		if s.end.state == 2 {
			m.seen["died of a complaint"]++
			s.end.die(impl.ErrRefused)
		}
	} else if said.Rest >= 68 && said.Rest <= 65535 {
		m.seen["too big"]++
		m.does(s, impl.TcpOp{Kind: impl.TcpDoTooBig, N: said.Rest})
	}
}

func (m *modelHost) deliversSegment(s impl.Segment, own, other place) {
	if stream := m.stream(own, other); stream != nil {
		m.does(stream, impl.TcpOp{Kind: impl.TcpDoSegment, Segment: s})
		return
	}
	listening := m.find("listening", own.port)
	if listening == nil {
		m.refuses(s, own, other)
		return
	}
	if s.Flags&segRst != 0 || s.Flags&(segAck|segSyn) == 0 {
		return
	}
	if s.Flags&segAck != 0 {
		m.refuses(s, own, other)
		return
	}
	number := int64(slices.Index(m.sockets, listening) + 1)
	count := 0
	for _, of := range m.sockets {
		if of.listener == number && !of.gone && !of.accepted && of.end.state != 0 {
			count++
		}
	}
	r, can := m.reach(other.addr)
	if count >= 8 || len(m.sockets) == 128 || !can {
		m.seen["not let in"]++
		return
	}
	stream := m.makesStream(own, other, r.Link)
	stream.listener = number
	m.does(stream, impl.TcpOp{Kind: impl.TcpDoListen})
	m.does(stream, impl.TcpOp{Kind: impl.TcpDoSegment, Segment: s})
}

func (m *modelHost) refuses(s impl.Segment, own, other place) {
	if s.Flags&segRst != 0 {
		return
	}
	m.seen["answer of refusal"]++
	if s.Flags&segAck != 0 {
		m.sendsSegment(own, other, impl.Segment{Seq: s.Ack, Flags: segRst})
		return
	}
	m.sendsSegment(own, other, impl.Segment{Ack: (s.Seq + impl.SegmentLength(s)) % allSeqs, Flags: segRst | segAck})
}

// next is what falls due first, and when; when nothing does it is nil.
func (m *modelHost) next() (func(), int64) {
	var first func()
	var when int64
	found := func(at int64, what func()) {
		if first == nil || at < when {
			first, when = what, at
		}
	}
	for link, c := range m.caches {
		for _, e := range c.list {
			for _, event := range e.events() {
				if event.time > c.done {
					found(event.time, func() { m.passesCache(link) })
				}
			}
		}
	}
	for _, d := range m.reasm.list {
		found(d.begun+patience, m.passesReasm)
	}
	for _, s := range m.sockets {
		if s.kind == "stream" && !s.gone {
			if name, at := s.end.firstDue(); name != "" {
				found(at, func() { m.goesOff(s, name, at) })
			}
		}
	}
	return first, when
}

func (m *modelHost) pass(wait int64) {
	end := m.now + wait
	for {
		what, when := m.next()
		if what == nil || when > end {
			m.now = end
			return
		}
		m.together += oneIf(when == m.stepAt)
		m.now, m.stepAt = when, when
		what()
		m.tryAgain()
	}
}

func (m *modelHost) passesCache(link int) {
	for _, x := range m.asksCache(link, impl.ArpOp{Kind: impl.ArpPass}) {
		m.complains(x.p, x.link, 3, 1, 0)
	}
}

func (m *modelHost) passesReasm() {
	m.reasm.now = m.now
	var firsts []impl.Packet
	for _, d := range m.reasm.list {
		if at := d.first(); d.begun+patience <= m.now && at >= 0 {
			firsts = append(firsts, d.pieces[at])
		}
	}
	m.reasm.do(resting(0))
	for _, p := range firsts {
		m.complainsFrom(p.Dst, p, 11, 1, 0)
	}
}

func (m *modelHost) goesOff(s *modelSocket, name string, at int64) {
	s.end.goesOffAt(name, at)
	sent := s.end.sent
	s.end.sent = nil
	for _, segment := range sent {
		m.sendsSegment(s.own, s.other, segment)
	}
}

func sameHostFrame(a, b impl.HostFrame) bool {
	return a.Link == b.Link && bytes.Equal(a.Bytes, b.Bytes)
}

func sameHostEvent(a, b impl.HostEvent) bool {
	return a.Ticket == b.Ticket && a.Code == b.Code && a.Sock == b.Sock && a.Took == b.Took && a.Addr == b.Addr && a.Port == b.Port &&
		bytes.Equal(a.Data, b.Data)
}

func sameHostOut(a, b impl.HostOut) bool {
	return a.Code == b.Code && a.Sock == b.Sock && a.Took == b.Took && a.Addr == b.Addr && a.Port == b.Port && bytes.Equal(a.Data, b.Data) &&
		a.Waits == b.Waits && slices.EqualFunc(a.Frames, b.Frames, sameHostFrame) && slices.EqualFunc(a.Events, b.Events, sameHostEvent) &&
		a.Socks == b.Socks && a.Waiting == b.Waiting
}

func sameHostOuts(a, b []impl.HostOut) bool { return slices.EqualFunc(a, b, sameHostOut) }
