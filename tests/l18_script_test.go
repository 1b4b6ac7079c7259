package tests

import (
	"math"
	"math/rand"
	"slices"
	"testing"

	"loop.example/g00003/impl"
)

// This file has random scripts for hosts, with neighbours that answer, and what is asked of all of them.

// hostScript is a script that is written while a model does it.
type hostScript struct {
	chance *rand.Rand
	m      *modelHost
	ops    []impl.HostOp
	want   []impl.HostOut
	// coming are frames that are on their way to the host.
	coming []impl.HostOp
	// sent are packets that it has sent lately.
	sent  []impl.Packet
	peers []*hostPeer
	// bias is what there is much of in this script, if it is anything.
	bias string
}

// hostPeer is the other end of a stream.
type hostPeer struct {
	own, other place
	end        *modelEnd
}

func newHostScript(chance *rand.Rand, c impl.HostConfig) *hostScript {
	return &hostScript{chance: chance, m: newModelHost(c)}
}

const (
	// linkNet is what the addresses at link 0 begin with; those at the next ones follow.
	linkNet = 10 << 24
	farNet  = 192<<24 | 168<<16
)

// atLink is the address of a host at a link; 1 is the own one, 9 the router.
func atLink(link int, number int64) int64 { return linkNet | int64(link)<<8 | number }

// macOf is the hardware address of whoever has an address at a link.
func macOf(addr int64) int64 { return 1000 + addr&0xFFFF }

// plainHost has links of these Mtus.
func plainHost(mtus ...int64) impl.HostConfig {
	c := impl.HostConfig{Secret: 77}
	for i, mtu := range mtus {
		c.Links = append(c.Links, impl.HostLink{
			Mac: int64(i + 1), Addr: atLink(i, 1), Prefix: impl.Prefix{Addr: atLink(i, 0), Bits: 24}, Mtu: mtu,
		})
	}
	return c
}

func hostRuleTexts() []string {
	return []string{
		"pass both any from any to any\n",
		"pass out any from any to any\npass in any from any to any known\npass in any from any to any related\nreject in udp from any to any\n" +
			"pass in tcp from any to any port 80-90 new\n",
		"reject in icmp from any to any new\npass both tcp from any to any\ndrop out udp from any port 53 to any\npass both any from any to any\n",
		"reject out any from 10.0.0.0/24 to 192.168.0.0/16\nreject in any from any to 10.0.1.0/24 stray\npass both any from any to any\n",
		"pass both icmp from any to any\npass both tcp from any to any\nreject both any from any to any\n",
		"",
	}
}

func randomHostConfig(t *testing.T, chance *rand.Rand) impl.HostConfig {
	var mtus []int64
	for range pick(chance, 1, 1, 2, 2, 2, 3, 4, 8) {
		mtus = append(mtus, pick[int64](chance, 128, 200, 500, 500, 1000, 1500, 1500, 128+chance.Int63n(1373)))
	}
	c := plainHost(mtus...)
	last := chance.Intn(len(mtus))
	c.Routes = []impl.Route{
		{Prefix: impl.Prefix{Addr: farNet, Bits: 16}, Via: atLink(last, 9), Link: int64(last)},
		{Prefix: impl.Prefix{Addr: farNet | 7<<8, Bits: 24}, Link: 0, Metric: chance.Int63n(2)},
		{Prefix: impl.Prefix{Addr: atLink(0, 4), Bits: 32}, Link: int64(last)},
	}
	if often(chance, 30) {
		c.Routes = append(c.Routes, impl.Route{Via: atLink(0, 9), Link: 0, Metric: 5})
	}
	c.Forward = often(chance, 75)
	c.Filter = often(chance, 40)
	c.Rules = rulesOf(t, pick(chance, hostRuleTexts()...))
	c.Secret = pick(chance, 0, lastAddr, chance.Int63n(lastAddr+1))
	return c
}

func (s *hostScript) links() int { return len(s.m.c.Links) }

func (s *hostScript) add(op impl.HostOp) impl.HostOut {
	s.ops = append(s.ops, op)
	out := s.m.do(op)
	s.want = append(s.want, out)
	for _, f := range out.Frames {
		s.answers(int(f.Link), f.Bytes)
	}
	if op.Kind == impl.HostPass && out.Code == impl.OK {
		for _, p := range s.peers {
			s.peerDoes(p, impl.TcpOp{Kind: impl.TcpDoPass, Wait: op.Wait})
		}
	}
	return out
}

// answers has the neighbours see a frame.
func (s *hostScript) answers(link int, b []byte) {
	f, _ := impl.DecodeFrame(b)
	if a, code := impl.DecodeArp(f.Payload); f.Type == impl.FrameArp && code == impl.OK {
		if a.Op == impl.ArpRequest && often(s.chance, 75) {
			reply := impl.Arp{Op: impl.ArpReply, SenderMac: macOf(a.Target), Sender: a.Target, TargetMac: a.SenderMac, Target: a.Sender}
			s.comes(link, impl.FrameArp, plainArp(reply))
		}
		return
	}
	p, _ := impl.DecodeIP(f.Payload)
	s.sent = append(s.sent, p)
	if len(s.sent) > 30 {
		s.sent = s.sent[1:]
	}
	g, code := impl.DecodeSegment(p.Payload, p.Src, p.Dst)
	if p.Proto != impl.ProtoTcp || code != impl.OK {
		return
	}
	own, other := place{p.Dst, g.DstPort}, place{p.Src, g.SrcPort}
	at := slices.IndexFunc(s.peers, func(x *hostPeer) bool { return x.own == own && x.other == other && x.end.state != 0 })
	if at < 0 && g.Flags == segSyn && often(s.chance, 90) {
		at = len(s.peers)
		s.makePeer(own, other)
		if often(s.chance, 85) {
			s.peers[at].end.listen()
		}
	}
	if at >= 0 {
		s.peerDoes(s.peers[at], impl.TcpOp{Kind: impl.TcpDoSegment, Segment: g})
	}
}

func (s *hostScript) makePeer(own, other place) {
	s.peers = append(s.peers, &hostPeer{own: own, other: other, end: newModelEnd(impl.TcpConfig{
		LocalPort: own.port, RemotePort: other.port, Iss: s.chance.Int63n(allSeqs), SendSize: 5000,
		RecvSize: pick[int64](s.chance, 500, 3000, 30000), Mss: pick[int64](s.chance, 88, 460, 1400),
	})})
}

func (s *hostScript) peerDoes(p *hostPeer, op impl.TcpOp) {
	p.end.now = max(p.end.now, s.m.now-op.Wait)
	for _, g := range p.end.do(op).Sent {
		s.comesFrom(p.own.addr, impl.Packet{
			TTL: 64, DF: true, Proto: impl.ProtoTcp, Src: p.own.addr, Dst: p.other.addr, Payload: plainSegment(g, way{p.own.addr, p.other.addr}),
		})
	}
}

// comes lets a frame be on its way to the host.
func (s *hostScript) comes(link int, kind int64, payload []byte) {
	to := s.m.c.Links[link].Mac
	if often(s.chance, 5) {
		to = lastMac
	}
	b := plainFrame(impl.Frame{Dst: to, Src: 1 + s.chance.Int63n(99), Type: kind, Payload: payload})
	s.coming = append(s.coming, impl.HostOp{Kind: impl.HostTake, Link: int64(link), Data: b})
}

// comesFrom lets a packet be on its way on the link at which the sender is, more often than not.
func (s *hostScript) comesFrom(addr int64, p impl.Packet) {
	link := int(addr >> 8 & 255)
	if link >= s.links() || often(s.chance, 10) {
		link = s.chance.Intn(s.links())
	}
	parts := []impl.Packet{p}
	if !p.DF && (len(p.Payload) > 1400 || often(s.chance, 40)) {
		parts, _ = modelFragment(p, pick[int64](s.chance, 68, 200, 500, 1500))
	}
	if len(parts) > 1 {
		s.m.seen["fragments"]++
		if often(s.chance, 50) {
			parts = shuffled(s.chance, parts)
		}
		if often(s.chance, 40) {
			parts = parts[:len(parts)-1]
		}
	}
	if len(parts) > 40 {
		return
	}
	for _, part := range parts {
		if often(s.chance, 10) {
			link = s.chance.Intn(s.links())
		}
		s.comes(link, impl.FrameIP, plainPacket(part))
	}
}

func (s *hostScript) neighbour() int64 {
	return atLink(s.chance.Intn(s.links()), pick[int64](s.chance, 2, 2, 3, 4, 5, 9))
}

func (s *hostScript) ownAddr() int64 { return s.m.c.Links[s.chance.Intn(s.links())].Addr }

// someAddr is one of any kind, often one that can be reached.
func (s *hostScript) someAddr() int64 {
	if often(s.chance, 70) {
		return pick(s.chance, s.neighbour(), s.neighbour(), farNet|s.chance.Int63n(1<<16), farNet|7<<8|3)
	}
	return pick(s.chance, append(addrsOfEachKind(), s.ownAddr(), atLink(s.chance.Intn(s.links()), 255), atLink(0, 0), 172<<24|16<<16|1)...)
}

// validAddr is such that a packet can have it.
func (s *hostScript) validAddr() int64 { return min(max(s.someAddr(), 0), lastAddr) }

func (s *hostScript) somePort() int64 {
	if n := len(s.m.sockets); n > 0 && often(s.chance, 60) {
		return s.m.sockets[s.chance.Intn(n)].port
	}
	return pick(s.chance, 1, 7, 53, 80, 81, 49152, 49153, 49154, 65535, s.chance.Int63n(65536))
}

func (s *hostScript) randomData() []byte {
	n := pick(s.chance, 0, 1, 5, 20, 100, s.chance.Intn(600), s.chance.Intn(600), 1400, s.chance.Intn(4000))
	return randomBytes(s.chance, n)
}

// packetComes lets a packet of some kind be on its way, to the host or through it.
func (s *hostScript) packetComes() {
	p := impl.Packet{
		Tos: s.chance.Int63n(256), ID: s.chance.Int63n(65536), DF: often(s.chance, 20), TTL: pick[int64](s.chance, 0, 1, 2, 3, 64, 64, 64),
		Src: s.neighbour(), Dst: s.ownAddr(), Options: make([]byte, 4*pick(s.chance, 0, 0, 0, 0, 1, 10)),
	}
	if often(s.chance, 15) {
		p.Src = s.validAddr()
	}
	if often(s.chance, 35) {
		p.Dst = s.validAddr()
	}
	port := s.somePort()
	switch s.chance.Intn(10) {
	case 0, 1, 2, 3:
		d := impl.Datagram{SrcPort: s.somePort(), DstPort: port, Data: s.randomData()}
		p.Proto, p.Payload = impl.ProtoUdp, plainUdp(d, way{p.Src, p.Dst})
	case 4, 5:
		kind := pick[int64](s.chance, impl.IcmpEcho, impl.IcmpEcho, impl.IcmpEchoReply, impl.IcmpEchoReply, impl.IcmpUnreachable, 13)
		p.Proto, p.Payload = impl.ProtoIcmp, plainIcmp(impl.Icmp{
			Type: kind, Code: s.chance.Int63n(3), Rest: port*65536 + s.chance.Int63n(65536), Body: s.randomData(),
		})
	case 6, 7:
		g := impl.Segment{SrcPort: s.somePort(), DstPort: port, Seq: s.chance.Int63n(allSeqs), Flags: pick(s.chance, segSyn, segSyn, s.chance.Int63n(64)), Window: 1000}
		g.Ack = s.chance.Int63n(allSeqs)
		p.Proto, p.Payload = impl.ProtoTcp, plainSegment(g, way{p.Src, p.Dst})
	default:
		p.Proto, p.Payload = pick[int64](s.chance, 0, 1, 6, 17, 99, 255), s.randomData()
	}
	if p.DF && len(p.Payload) > 1440 {
		p.Payload = p.Payload[:1440]
	}
	s.comesFrom(p.Src, p)
}

// complaintComes is about something that was sent, more or less.
func (s *hostScript) complaintComes() {
	if len(s.sent) == 0 {
		return
	}
	about := clonePacket(s.sent[s.chance.Intn(len(s.sent))])
	if n := len(about.Payload); n > 8 && often(s.chance, 20) {
		about.Payload[s.chance.Intn(8)] += byte(1 + s.chance.Intn(3))
	}
	m := impl.Icmp{
		Type: pick[int64](s.chance, impl.IcmpUnreachable, impl.IcmpUnreachable, impl.IcmpUnreachable, impl.IcmpExceeded),
		Code: pick[int64](s.chance, 0, 1, 2, 3, 4, 4, 4, 13, 255), Rest: pick[int64](s.chance, 0, 67, 68, 100, 128, 300, 500, 1500, 65535, 65536, lastAddr),
	}
	b := plainPacket(about)
	m.Body = b[:min(len(b), 20+len(about.Options)+pick(s.chance, 8, 8, 8, 7, 100))]
	from := s.neighbour()
	s.comesFrom(from, impl.Packet{TTL: 64, Proto: impl.ProtoIcmp, Src: from, Dst: pick(s.chance, about.Src, about.Src, about.Src, s.ownAddr()), Payload: plainIcmp(m)})
}

// segmentComes is for a stream that is there, and not much beside what it waits for.
func (s *hostScript) segmentComes() {
	var streams []*modelSocket
	for _, x := range s.m.sockets {
		if x.kind == "stream" {
			streams = append(streams, x)
		}
	}
	if len(streams) == 0 {
		return
	}
	x := streams[s.chance.Intn(len(streams))]
	near := func() int64 { return pick[int64](s.chance, 0, 0, 0, 0, 1, -1, 5) }
	g := impl.Segment{SrcPort: x.other.port, DstPort: x.own.port, Flags: pick(s.chance, segAck, segAck, segAck|segFin, segRst, segRst|segAck, segSyn, s.chance.Int63n(64))}
	g.Seq = (x.end.otherNumber(x.end.r()) + near() + allSeqs) % allSeqs
	g.Ack = (x.end.number(pick(s.chance, x.end.nxt(), x.end.nxt(), x.end.una())) + near() + allSeqs) % allSeqs
	g.Window = pick[int64](s.chance, 0, 100, 5000)
	g.Data = s.randomData()[:0]
	if often(s.chance, 30) {
		g.Data = randomBytes(s.chance, 1+s.chance.Intn(30))
	}
	p := impl.Packet{TTL: 9, DF: true, Proto: impl.ProtoTcp, Src: x.other.addr, Dst: x.own.addr}
	p.Payload = plainSegment(g, way{p.Src, p.Dst})
	s.comesFrom(p.Src, p)
}

// noFrame is a frame that is none, or not for the host, and why.
func noFrame(chance *rand.Rand, c impl.HostConfig, good impl.HostOp) impl.HostOp {
	own := c.Links[good.Link].Mac
	b := slices.Clone(good.Data)
	f, code := impl.DecodeFrame(b)
	if code != impl.OK {
		f = impl.Frame{Dst: own, Src: 5, Type: impl.FrameIP, Payload: make([]byte, 30)}
		b = plainFrame(f)
	}
	switch chance.Intn(8) {
	case 0:
		turnBit(b, chance.Intn(8*len(b)))
	case 1:
		b = b[:chance.Intn(len(b))]
	case 2:
		f.Dst = pick(chance, own+1000, lastMac-1, 0, 1<<40)
		b = plainFrame(f)
	case 3:
		f.Type = pick[int64](chance, 0, 2047, 2049, 2055, 65535)
		b = plainFrame(f)
	case 4:
		f.Type, f.Payload = impl.FrameArp, f.Payload[:min(len(f.Payload), chance.Intn(28))]
		b = plainFrame(f)
	case 5:
		f.Type, f.Payload = impl.FrameIP, randomBytes(chance, chance.Intn(60))
		b = plainFrame(f)
	case 6:
		src := pick(chance, c.Links[chance.Intn(len(c.Links))].Addr, 0, lastAddr, 127<<24|1, 224<<24|1)
		d := impl.Datagram{SrcPort: 5, DstPort: 53, Data: []byte("from nobody")}
		p := impl.Packet{TTL: 9, Proto: impl.ProtoUdp, Src: src, Dst: c.Links[good.Link].Addr, Payload: plainUdp(d, way{src, c.Links[good.Link].Addr})}
		f.Type, f.Payload = impl.FrameIP, plainPacket(p)
		b = plainFrame(f)
	case 7:
		dst := pick(chance, atLink(int(good.Link), 255), lastAddr, 224<<24|1, 127<<24|1, 0)
		p := impl.Packet{TTL: 9, Proto: impl.ProtoUdp, Src: atLink(int(good.Link), 3), Dst: dst, Payload: make([]byte, 20)}
		f.Type, f.Payload = impl.FrameIP, plainPacket(p)
		b = plainFrame(f)
	}
	good.Data = b
	return good
}

func (s *hostScript) randomWait() int64 {
	next := int64(1)
	if what, when := s.m.next(); what != nil {
		next = when - s.m.now
	}
	return pick(s.chance, 0, 1, next, next, next, next-1, next+1, 10, 40, 200, 1000, s.chance.Int63n(300), s.chance.Int63n(4000), 10000, 30000)
}

func (s *hostScript) socketOp() impl.HostOp {
	kind := pick[int64](s.chance, 5, 5, 5, 6, 6, 9, 9, 10, 10, 10, 11, 11, 11, 12)
	if often(s.chance, 6) {
		kind = pick[int64](s.chance, impl.HostAbort, impl.HostDrop)
	}
	op := impl.HostOp{Kind: kind, Addr: s.someAddr(), Port: s.somePort(), N: pick[int64](s.chance, 0, 1, 100, 5000, 1<<40), Block: often(s.chance, 60)}
	// Most often it is of a kind for which the operation is.
	for range 30 {
		op.Sock = s.chance.Int63n(int64(len(s.m.sockets)) + 2)
		if op.Sock < 1 || op.Sock > int64(len(s.m.sockets)) {
			continue
		}
		x := s.m.sockets[op.Sock-1]
		fits := map[string]bool{"datagrams": kind <= 6, "echoes": kind <= 6, "listening": kind == 9, "stream": kind >= 10}[x.kind]
		if !x.gone && (fits || kind == impl.HostDrop) {
			break
		}
	}
	if kind == impl.HostSend || kind == impl.HostWrite {
		op.Data = s.randomData()
	}
	if kind == impl.HostWrite && often(s.chance, 20) {
		op.Data = randomBytes(s.chance, 20000)
	}
	return op
}

func (s *hostScript) makingOp() impl.HostOp {
	kind := pick[int64](s.chance, impl.HostUdp, impl.HostUdp, impl.HostPing, impl.HostListen, impl.HostConnect, impl.HostConnect)
	op := impl.HostOp{Kind: kind, Port: pick(s.chance, 0, 53, 7, 80, 81, 49152, 49153, 65535, s.chance.Int63n(65536))}
	if kind == impl.HostConnect {
		op.Addr, op.Port = s.someAddr(), pick[int64](s.chance, 80, 81, 82)
	}
	return op
}

// illHostOp has a kind or a number that is none, and perhaps several.
func (s *hostScript) illHostOp() impl.HostOp {
	op := pick(s.chance, s.makingOp(), s.makingOp(), s.makingOp(), impl.HostOp{Kind: impl.HostPass}, impl.HostOp{Kind: impl.HostTake})
	if len(s.m.sockets) > 0 {
		op = pick(s.chance, op, s.socketOp())
	}
	out := pick(s.chance, -1, 65536, 65537, lastAddr, math.MinInt64, math.MaxInt64, -s.chance.Int63(), pick(s.chance, edgeNumbers()...))
	for {
		switch s.chance.Intn(6) {
		case 0:
			op.Kind = pick(s.chance, 0, 15, -1, out)
		case 1:
			op.Link = pick(s.chance, int64(s.links()), out)
		case 2:
			op.Sock = pick(s.chance, 0, int64(len(s.m.sockets))+1, out)
		case 3:
			op.Addr = out
		case 4:
			op.Port = out
		case 5:
			op.Wait, op.N = pick(s.chance, lastTime+1, lastTime-s.m.now+1, -1, min(out, -1)), out
		}
		if often(s.chance, 70) {
			return op
		}
	}
}

func (s *hostScript) peerOp() {
	if len(s.peers) == 0 || often(s.chance, 15) {
		port := s.somePort()
		s.makePeer(place{s.neighbour(), 5000 + s.chance.Int63n(20)}, place{s.ownAddr(), port})
		s.peerDoes(s.peers[len(s.peers)-1], impl.TcpOp{Kind: impl.TcpDoConnect})
		return
	}
	p := s.peers[s.chance.Intn(len(s.peers))]
	kind := pick[int64](s.chance, 3, 3, 3, 3, 4, 4, 4, 4, 4, 5)
	if often(s.chance, 3) {
		kind = impl.TcpDoAbort
	}
	s.peerDoes(p, impl.TcpOp{Kind: kind, N: 4000, Data: randomBytes(s.chance, s.chance.Intn(1500))})
}

// biased does what there is much of, if that is anything.
func (s *hostScript) biased() bool {
	switch s.bias {
	case "knocks":
		from, to := place{s.neighbour(), 6000 + s.chance.Int63n(40)}, place{s.ownAddr(), 80}
		g := impl.Segment{SrcPort: from.port, DstPort: to.port, Seq: s.chance.Int63n(allSeqs), Flags: segSyn, Window: 500}
		p := impl.Packet{TTL: 9, DF: true, Proto: impl.ProtoTcp, Src: from.addr, Dst: to.addr, Payload: plainSegment(g, way{from.addr, to.addr})}
		s.comesFrom(from.addr, p)
	case "complaints":
		if often(s.chance, 40) {
			s.add(hostConnects(place{s.neighbour(), 80 + s.chance.Int63n(3)}))
		}
		s.complaintComes()
	case "waits":
		s.add(blocking(s.socketOp()))
	case "sockets":
		s.add(s.makingOp())
	case "time":
		s.add(hostPass(s.randomWait()))
	case "floods":
		x := s.m.sockets[s.chance.Intn(len(s.m.sockets))]
		from, to := s.neighbour(), s.ownAddr()
		p := udpPacket(place{from, s.somePort()}, place{to, x.port}, "flood")
		if x.kind == "echoes" {
			p = echoPacket(from, to, impl.IcmpEchoReply, x.port, s.chance.Int63n(65536), "flood")
		}
		s.add(comingAt(int(from>>8&255), p))
	default:
		return false
	}
	return true
}

func (s *hostScript) step() {
	if n := len(s.coming); n > 0 && often(s.chance, 55) {
		at := 0
		if often(s.chance, 10) {
			at = s.chance.Intn(n)
		}
		op := s.coming[at]
		if !often(s.chance, 5) {
			s.coming = slices.Delete(s.coming, at, at+1)
		}
		if often(s.chance, 4) {
			op = noFrame(s.chance, s.m.c, op)
		}
		if !often(s.chance, 6) {
			s.add(op)
		}
		return
	}
	if often(s.chance, 40) && s.biased() {
		return
	}
	switch n := s.chance.Intn(100); {
	case n < 15:
		s.add(impl.HostOp{Kind: impl.HostPass, Wait: s.randomWait()})
	case n < 22 || len(s.m.sockets) == 0:
		s.add(s.makingOp())
	case n < 54:
		s.add(s.socketOp())
	case n < 70:
		s.packetComes()
	case n < 76:
		s.complaintComes()
	case n < 82:
		s.segmentComes()
	case n < 95:
		s.peerOp()
	case n < 98:
		s.add(s.illHostOp())
	default:
		a := impl.Arp{Op: 1 + s.chance.Int63n(2), SenderMac: s.chance.Int63n(2000), Sender: s.validAddr(), Target: pick(s.chance, s.ownAddr(), s.validAddr())}
		s.comes(s.chance.Intn(s.links()), impl.FrameArp, plainArp(a))
	}
}

func runningHost(c impl.HostConfig) func([]impl.HostOp) ([]impl.HostOut, int64) {
	return func(ops []impl.HostOp) ([]impl.HostOut, int64) { return impl.RunHost(c, ops) }
}

func (s *hostScript) check(t *testing.T) []impl.HostOut {
	t.Helper()
	outs := runAll(t, runningHost(s.m.c), s.ops)
	for i, out := range outs {
		if !sameHostOut(out, s.want[i]) {
			t.Fatalf("%+v\noperation %d at %d, %s:\n%s, not\n%s", s.m.c, i, s.m.now, shortly(s.ops[i]), hostTexts{}.out(out), hostTexts{}.out(s.want[i]))
		}
	}
	return outs
}

// randomHostScript is a whole one, of many operations or of few.
func randomHostScript(t *testing.T, chance *rand.Rand) *hostScript {
	s := newHostScript(chance, randomHostConfig(t, chance))
	for range 1 + chance.Intn(3) {
		s.add(s.makingOp())
	}
	s.add(hostMakes(impl.HostListen, 80))
	s.bias = pick(chance, "", "", "", "knocks", "complaints", "waits", "sockets", "time", "floods")
	steps := pick(chance, 30, 150, 400, 800)
	for range steps {
		s.step()
	}
	return s
}

func TestHostAsModel(t *testing.T) {
	chance := newChance()
	seen := map[string]int{}
	for range 600 {
		s := randomHostScript(t, chance)
		s.check(t)
		for what, n := range s.m.seen {
			seen[what] += n
		}
		seen["several steps of one time"] += int(s.m.together)
	}
	for what, n := range seen {
		if n < 20 {
			t.Errorf("%s: %d times", what, n)
		}
	}
	// All that the model counts is among them.
	if len(seen) < 25 {
		t.Errorf("only this is seen: %v", seen)
	}
}

// checkSentFrame asks that a frame is a right one from a host's link.
func checkSentFrame(t *testing.T, c impl.HostConfig, h impl.HostFrame) {
	t.Helper()
	if h.Link < 0 || h.Link >= int64(len(c.Links)) {
		t.Fatalf("a frame at link %d", h.Link)
	}
	l := c.Links[h.Link]
	f, code := impl.DecodeFrame(h.Bytes)
	if code != impl.OK || f.Src != l.Mac || int64(len(f.Payload)) > l.Mtu {
		t.Fatalf("no frame of link %d: %x", h.Link, h.Bytes)
	}
	if f.Type == impl.FrameArp {
		a, code := impl.DecodeArp(f.Payload)
		if code != impl.OK || a.SenderMac != l.Mac || a.Sender != l.Addr || f.Dst != map[bool]int64{true: lastMac, false: a.TargetMac}[a.Op == impl.ArpRequest] {
			t.Fatalf("no Arp of link %d: %x", h.Link, h.Bytes)
		}
		return
	}
	p, code := impl.DecodeIP(f.Payload)
	if f.Type != impl.FrameIP || code != impl.OK || p.TTL < 1 || impl.PacketSize(p) != int64(len(f.Payload)) {
		t.Fatalf("no packet of link %d: %x", h.Link, h.Bytes)
	}
}

// P32: whatever comes, every frame is a right one of its link, and sockets and what waits are bounded.
func TestHostSendsRightFrames(t *testing.T) {
	chance := newChance()
	for range 100 {
		s := randomHostScript(t, chance)
		for _, out := range runAll(t, runningHost(s.m.c), s.ops) {
			if out.Socks < 0 || out.Socks > impl.MaxSocks || out.Waiting < 0 || out.Waiting > impl.MaxWaiting {
				t.Fatalf("%d sockets, %d wait", out.Socks, out.Waiting)
			}
			for _, f := range out.Frames {
				checkSentFrame(t, s.m.c, f)
			}
		}
	}
}

// P32: so many as there may be are made and wait, and no more, in a script of nothing but that.
func TestHostMakesAndWaits(t *testing.T) {
	chance := newChance()
	for range 20 {
		s := newHostScript(chance, randomHostConfig(t, chance))
		most := [2]int64{}
		for range 400 {
			out := s.add(pick(chance, s.makingOp(), blocking(s.makingOp()), hostMakes(impl.HostUdp, 0), hostOp(impl.HostDrop, 1+chance.Int63n(200))))
			out = s.add(blocking(hostOp(pick[int64](chance, impl.HostRecv, impl.HostAccept, impl.HostRead), 1+chance.Int63n(out.Socks+10))))
			most[0], most[1] = max(most[0], out.Socks), max(most[1], out.Waiting)
		}
		s.check(t)
		if len(s.m.sockets) != 128 || most[0] > 128 || most[1] != 32 {
			t.Fatalf("%d sockets, at the most %d at one time, %d wait", len(s.m.sockets), most[0], most[1])
		}
	}
}

// P33: frames that are none, or not for the host, change nothing: all else is told as if they had not come.
func TestHostLeavesOtherFrames(t *testing.T) {
	chance := newChance()
	for range 150 {
		s := randomHostScript(t, chance)
		c := s.m.c
		c.Forward = false
		plain := runAll(t, runningHost(c), s.ops)
		var ops []impl.HostOp
		var places []int64
		for _, op := range s.ops {
			for len(ops) < 1900 && often(chance, 30) {
				good := impl.HostOp{Kind: impl.HostTake, Link: int64(chance.Intn(s.links()))}
				if op.Kind == impl.HostTake && op.Link >= 0 && op.Link < int64(s.links()) {
					good = op
				}
				ops = append(ops, noFrame(chance, c, good))
			}
			places = append(places, int64(len(ops)))
			ops = append(ops, op)
		}
		outs := runAll(t, runningHost(c), ops)
		next := 0
		for i, out := range outs {
			if next < len(places) && places[next] == int64(i) {
				want := plain[next]
				want.Events = slices.Clone(want.Events)
				for k := range want.Events {
					want.Events[k].Ticket = places[want.Events[k].Ticket]
				}
				if !sameHostOut(out, want) {
					t.Fatalf("operation %d, %s: %s, not %s", next, shortly(ops[i]), hostTexts{}.out(out), hostTexts{}.out(want))
				}
				next++
				continue
			}
			want := impl.HostOut{}
			if next > 0 {
				want.Socks, want.Waiting = plain[next-1].Socks, plain[next-1].Waiting
			}
			if !sameHostOut(out, want) {
				t.Fatalf("a frame that is none, %s: %s", shortly(ops[i]), hostTexts{}.out(out))
			}
		}
	}
}

// P34: what waits ends at most once, with another code; Waiting is how many have not ended.
func TestHostWaitsEndOnce(t *testing.T) {
	chance := newChance()
	ended := 0
	for range 150 {
		s := randomHostScript(t, chance)
		waits := map[int64]bool{}
		for i, out := range runAll(t, runningHost(s.m.c), s.ops) {
			if out.Waits {
				if !s.ops[i].Block || out.Code != impl.ErrWait && out.Code != impl.ErrFull {
					t.Fatalf("operation %d, %s waits: %s", i, shortly(s.ops[i]), hostTexts{}.out(out))
				}
				waits[int64(i)] = true
			}
			for _, e := range out.Events {
				if !waits[e.Ticket] || e.Code == impl.ErrWait || e.Code == impl.ErrFull {
					t.Fatalf("operation %d, %s: %s", i, shortly(s.ops[i]), hostTexts{}.out(out))
				}
				delete(waits, e.Ticket)
				ended++
			}
			if out.Waiting != int64(len(waits)) {
				t.Fatalf("operation %d: %d wait, not %d", i, out.Waiting, len(waits))
			}
		}
	}
	if ended < 200 {
		t.Errorf("only %d have ended", ended)
	}
}

// roomyHostOps have room behind their data, with bytes in it.
func roomyHostOps(ops []impl.HostOp) []impl.HostOp {
	list := make([]impl.HostOp, len(ops), len(ops)+2)
	for i, op := range ops {
		op.Data = append(append(make([]byte, 0, len(op.Data)+9), op.Data...), 1, 2, 3, 4, 5)[:len(op.Data)]
		list[i] = op
	}
	return list
}

func sameHostOps(a, b []impl.HostOp) bool {
	return slices.EqualFunc(a[:cap(a)], b[:cap(b)], func(x, y impl.HostOp) bool {
		return string(withRoom(x.Data)) == string(withRoom(y.Data)) && x.Kind == y.Kind && x.Link == y.Link && x.Sock == y.Sock &&
			x.Addr == y.Addr && x.Port == y.Port && x.N == y.N && x.Wait == y.Wait && x.Block == y.Block
	})
}

func cloneHostOuts(outs []impl.HostOut) []impl.HostOut {
	list := slices.Clone(outs)
	for i := range list {
		o := &list[i]
		o.Data, o.Frames, o.Events = slices.Clone(o.Data), slices.Clone(o.Frames), slices.Clone(o.Events)
		for k := range o.Frames {
			o.Frames[k].Bytes = slices.Clone(o.Frames[k].Bytes)
		}
		for k := range o.Events {
			o.Events[k].Data = slices.Clone(o.Events[k].Data)
		}
	}
	return list
}

// byteLists are all of an answer, with the room behind them.
func byteLists(outs []impl.HostOut) [][]byte {
	var lists [][]byte
	for _, o := range outs {
		lists = append(lists, withRoom(o.Data))
		for _, f := range o.Frames {
			lists = append(lists, withRoom(f.Bytes))
		}
		for _, e := range o.Events {
			lists = append(lists, withRoom(e.Data))
		}
	}
	return lists
}

// P51: the same call answers the same, changes no argument, and its answer shares memory with nothing.
func TestRunHostSharesNothing(t *testing.T) {
	chance := newChance()
	for range 60 {
		s := randomHostScript(t, chance)
		c := s.m.c
		c.Links = append(make([]impl.HostLink, 0, 20), c.Links...)
		c.Routes = append(make([]impl.Route, 0, 90), c.Routes...)
		c.Rules = append(make([]impl.Rule, 0, 90), c.Rules...)
		links, routes, rules := slices.Clone(c.Links[:20]), slices.Clone(c.Routes[:90]), slices.Clone(c.Rules[:90])
		ops := roomyHostOps(s.ops)
		kept := roomyHostOps(s.ops)
		outs, _ := impl.RunHost(c, ops)
		told := cloneHostOuts(outs)
		again, code := impl.RunHost(c, ops)
		if code != impl.OK || !sameHostOuts(again, told) || !sameHostOuts(told, s.want) {
			t.Fatal("another answer the second time")
		}
		if !sameHostOps(ops, kept) || !slices.Equal(links, c.Links[:20]) || !slices.Equal(routes, c.Routes[:90]) || !slices.Equal(rules, c.Rules[:90]) {
			t.Fatal("an argument is another one")
		}
		for _, op := range ops {
			spoil(withRoom(op.Data), 99)
		}
		clear(c.Links)
		for _, o := range again {
			spoil(o.Frames[:cap(o.Frames)], impl.HostFrame{})
			spoil(o.Events[:cap(o.Events)], impl.HostEvent{})
		}
		if !sameHostOuts(outs, told) {
			t.Fatal("an answer shares memory with an argument, or with another answer")
		}
		checkListsApart(t, byteLists(outs), func(i int) byte { return byte(i) }, func(b byte) int { return int(b) })
		var frames [][]impl.HostFrame
		var events [][]impl.HostEvent
		for _, o := range outs {
			frames, events = append(frames, o.Frames[:cap(o.Frames)]), append(events, o.Events[:cap(o.Events)])
		}
		checkListsApart(t, frames, func(i int) impl.HostFrame { return impl.HostFrame{Link: int64(i)} }, func(f impl.HostFrame) int { return int(f.Link) })
		checkListsApart(t, events, func(i int) impl.HostEvent { return impl.HostEvent{Ticket: int64(i)} }, func(e impl.HostEvent) int { return int(e.Ticket) })
	}
}

// checkListsApart fills each list with a mark of its own, and asks that all of them still have theirs.
func checkListsApart[T any](t *testing.T, lists [][]T, mark func(i int) T, number func(T) int) {
	t.Helper()
	for i, list := range lists {
		spoil(list, mark(i))
	}
	for i, list := range lists {
		for _, x := range list {
			if number(x) != number(mark(i)) {
				t.Fatalf("list %d of %d shares memory", i, len(lists))
			}
		}
	}
}
