package tests

import (
	"bytes"
	"fmt"
	"strings"
	"testing"
	"unicode"

	"loop.example/g00003/impl"
)

// hostTexts tells in a line what came of an operation: its code, and what else is not zero; each frame behind a bar, each
// event behind an exclamation mark; how many sockets there are and, behind a slash, how many operations wait.
type hostTexts struct {
	// first has the first sequence numbers of streams, by own and other place; numbers are told as places where it is known.
	first map[[2]place]int64
}

func codeText(code int64) string {
	names := map[int64]string{
		impl.OK: "ok", impl.ErrForm: "form", impl.ErrSize: "size", impl.ErrRoute: "route", impl.ErrPort: "port", impl.ErrState: "state",
		impl.ErrReset: "reset", impl.ErrTimeout: "timeout", impl.ErrRefused: "refused", impl.ErrClosed: "closed", impl.ErrFull: "full",
		impl.ErrWait: "wait",
	}
	if name, known := names[code]; known {
		return name
	}
	return fmt.Sprint("code ", code)
}

// dataText tells how many bytes there are of a stream's, from some place on, and others as they are.
func dataText(b []byte, from int64) string {
	if len(b) == 0 {
		return ""
	}
	if bytes.Equal(b, streamBytes(from, len(b))) {
		return fmt.Sprintf(" *%d", len(b))
	}
	if strings.IndexFunc(string(b), func(r rune) bool { return !unicode.IsPrint(r) }) < 0 {
		return " " + string(b)
	}
	return fmt.Sprintf(" %x", b)
}

func addrText(addr int64) string {
	text, code := impl.ShowAddr(addr)
	if code != impl.OK {
		return fmt.Sprint("no address ", addr)
	}
	return text
}

func answerText(code, sock, took, addr, port int64, data []byte) string {
	text := codeText(code)
	if sock != 0 {
		text += fmt.Sprint(" sock ", sock)
	}
	if took != 0 {
		text += fmt.Sprint(" took ", took)
	}
	if addr != 0 {
		text += " from " + addrText(addr)
	}
	if port != 0 {
		text += fmt.Sprint(" port ", port)
	}
	return text + dataText(data, 0)
}

func (x hostTexts) out(out impl.HostOut) string {
	text := answerText(out.Code, out.Sock, out.Took, out.Addr, out.Port, out.Data)
	if out.Waits {
		text += " waits"
	}
	for _, f := range out.Frames {
		text += " | " + x.frame(f)
	}
	for _, e := range out.Events {
		text += fmt.Sprintf(" ! %d %s", e.Ticket, answerText(e.Code, e.Sock, e.Took, e.Addr, e.Port, e.Data))
	}
	text += fmt.Sprint(" =", out.Socks)
	if out.Waiting != 0 {
		text += fmt.Sprint("/", out.Waiting)
	}
	return text
}

// frame tells the link; what is told of a frame is all that is in it, but for its sender, which is the link's.
func (x hostTexts) frame(h impl.HostFrame) string {
	f, code := impl.DecodeFrame(h.Bytes)
	if code != impl.OK || f.Src != h.Link+1 {
		return fmt.Sprintf("%d ill %x", h.Link, h.Bytes)
	}
	text := fmt.Sprintf("%d to %d ", h.Link, f.Dst)
	if a, code := impl.DecodeArp(f.Payload); f.Type == impl.FrameArp && code == impl.OK {
		own := a.SenderMac == f.Src && a.Sender == atLink(int(h.Link), 1)
		switch {
		case own && a.Op == impl.ArpRequest && a.TargetMac == 0 && f.Dst == lastMac:
			return fmt.Sprintf("%d who %s", h.Link, addrText(a.Target))
		case own && a.Op == impl.ArpReply && a.TargetMac == f.Dst:
			return text + "tell " + addrText(a.Target)
		}
	}
	p, code := impl.DecodeIP(f.Payload)
	if f.Type != impl.FrameIP || code != impl.OK || !bytes.Equal(plainPacket(p), f.Payload) {
		return text + fmt.Sprintf("ill %x", f.Payload)
	}
	return text + x.packet(p)
}

// packet names a protocol, addresses, and what else there is of its payload; then, of its head, what is not plain.
func (x hostTexts) packet(p impl.Packet) string {
	text := x.payload(p) + headText(p.TTL, p.ID, p.DF)
	if p.Tos != 0 {
		text += fmt.Sprint(" tos ", p.Tos)
	}
	if len(p.Options) > 0 {
		text += fmt.Sprint(" options ", len(p.Options))
	}
	return text
}

func headText(ttl, id int64, df bool) string {
	text := fmt.Sprint(" #", id)
	if ttl != 64 {
		text += fmt.Sprint(" ttl ", ttl)
	}
	if df {
		text += " df"
	}
	return text
}

func (x hostTexts) payload(p impl.Packet) string {
	plain := fmt.Sprintf("p%d %s>%s", p.Proto, addrText(p.Src), addrText(p.Dst))
	if p.Offset > 0 || p.MF {
		return fmt.Sprintf("%s part %d-%d%s", plain, p.Offset, p.Offset+int64(len(p.Payload)), strings.Repeat(" more", int(oneIf(p.MF))))
	}
	d, udpCode := impl.DecodeUdp(p.Payload, p.Src, p.Dst)
	s, tcpCode := impl.DecodeSegment(p.Payload, p.Src, p.Dst)
	m, icmpCode := impl.DecodeIcmp(p.Payload)
	switch {
	case p.Proto == impl.ProtoUdp && udpCode == impl.OK:
		return fmt.Sprintf("udp %s:%d>%s:%d", addrText(p.Src), d.SrcPort, addrText(p.Dst), d.DstPort) + dataText(d.Data, 0)
	case p.Proto == impl.ProtoTcp && tcpCode == impl.OK:
		return x.segment(s, place{p.Src, s.SrcPort}, place{p.Dst, s.DstPort})
	case p.Proto == impl.ProtoIcmp && icmpCode == impl.OK:
		return fmt.Sprintf("icmp %s>%s", addrText(p.Src), addrText(p.Dst)) + x.message(m)
	}
	return plain + dataText(p.Payload, 0)
}

func (x hostTexts) segment(s impl.Segment, own, other place) string {
	if s.Flags != segRst {
		s.Seq = x.placeOf(s.Seq, own, other)
	}
	data := dataText(s.Data, s.Seq-1)
	s.Data = nil
	text, code := impl.ShowSegment(s)
	if code != impl.OK {
		return fmt.Sprint("ill ", shortly(s))
	}
	_, text, _ = strings.Cut(text, " ")
	return fmt.Sprintf("tcp %s:%d>%s:%d ", addrText(own.addr), own.port, addrText(other.addr), other.port) + text + data
}

func (x hostTexts) placeOf(seq int64, own, other place) int64 {
	if first, known := x.first[[2]place{own, other}]; known {
		return (seq - first + allSeqs) % allSeqs
	}
	return seq
}

func (x hostTexts) message(m impl.Icmp) string {
	switch m.Type {
	case impl.IcmpEcho:
		return fmt.Sprintf(" echo %d/%d/%d", m.Code, m.Rest/65536, m.Rest%65536) + dataText(m.Body, 0)
	case impl.IcmpEchoReply:
		return fmt.Sprintf(" reply %d/%d/%d", m.Code, m.Rest/65536, m.Rest%65536) + dataText(m.Body, 0)
	}
	text := fmt.Sprintf(" %d/%d", m.Type, m.Code)
	if m.Rest != 0 {
		text += fmt.Sprint(" rest ", m.Rest)
	}
	return text + " about " + x.quote(m.Body)
}

// quote tells a packet's head, and how much stands behind it, if that is not 8 bytes.
func (x hostTexts) quote(body []byte) string {
	head := int(body[0]&15) * 4
	src, dst, behind := numberOf(body, 12, 4), numberOf(body, 16, 4), body[head:]
	text := fmt.Sprintf("p%d %s>%s", body[9], addrText(src), addrText(dst))
	if (body[9] == impl.ProtoUdp || body[9] == impl.ProtoTcp) && len(behind) >= 8 {
		own, other := place{src, numberOf(behind, 0, 2)}, place{dst, numberOf(behind, 2, 2)}
		text = fmt.Sprintf("p%d %s:%d>%s:%d", body[9], addrText(src), own.port, addrText(dst), other.port)
	}
	text += headText(int64(body[8]), numberOf(body, 4, 2), body[6]&64 != 0)
	if body[6]&32 != 0 {
		text += " more"
	}
	if len(behind) != 8 {
		text += fmt.Sprint(" with ", len(behind))
	}
	return text
}

// hostTest is a script whose answers a test tells by itself; they must be the model's, too.
type hostTest struct {
	t     *testing.T
	c     impl.HostConfig
	texts hostTexts
	ops   []impl.HostOp
	told  []string
	m     *modelHost
}

func newHostTest(t *testing.T, c impl.HostConfig) *hostTest {
	return &hostTest{t: t, c: c, texts: hostTexts{first: map[[2]place]int64{}}, m: newModelHost(c)}
}

// do adds an operation; what it tells is not asked for where told is "-".
func (h *hostTest) do(op impl.HostOp, told string) {
	h.t.Helper()
	h.ops = append(h.ops, op)
	h.told = append(h.told, told)
	if want := h.texts.out(h.m.do(op)); told != want && told != "-" {
		h.t.Errorf("operation %d, %s: the test asks for\n%s\nthe model tells\n%s", len(h.ops)-1, shortly(op), told, want)
	}
}

// each adds operations of which it is not asked what they tell.
func (h *hostTest) each(ops ...impl.HostOp) {
	h.t.Helper()
	for _, op := range ops {
		h.do(op, "-")
	}
}

// stream lets numbers of an own stream be told as places.
func (h *hostTest) stream(now int64, own, other place) {
	h.texts.first[[2]place{own, other}] = issAt(h.c.Secret, now, own, other)
}

// check asks the program for all that was added.
func (h *hostTest) check() []impl.HostOut {
	h.t.Helper()
	m := newModelHost(h.c)
	outs := runAll(h.t, runningHost(h.c), h.ops)
	for i, out := range outs {
		told := h.texts.out(out)
		if h.told[i] != "-" && told != h.told[i] {
			h.t.Errorf("operation %d, %s:\n%s, not\n%s", i, shortly(h.ops[i]), told, h.told[i])
		}
		if want := m.do(h.ops[i]); !sameHostOut(out, want) {
			h.t.Fatalf("operation %d, %s:\n%s\nnot what the model tells:\n%s", i, shortly(h.ops[i]), told, h.texts.out(want))
		}
	}
	return outs
}

func hostOp(kind, sock int64) impl.HostOp { return impl.HostOp{Kind: kind, Sock: sock} }

func hostMakes(kind, port int64) impl.HostOp { return impl.HostOp{Kind: kind, Port: port} }

func hostSends(sock int64, to place, data string) impl.HostOp {
	return impl.HostOp{Kind: impl.HostSend, Sock: sock, Addr: to.addr, Port: to.port, Data: []byte(data)}
}

func hostConnects(to place) impl.HostOp {
	return impl.HostOp{Kind: impl.HostConnect, Addr: to.addr, Port: to.port}
}

func hostWrites(sock int64, data []byte) impl.HostOp {
	return impl.HostOp{Kind: impl.HostWrite, Sock: sock, Data: data}
}

func hostReads(sock, n int64) impl.HostOp {
	return impl.HostOp{Kind: impl.HostRead, Sock: sock, N: n}
}

func blocking(op impl.HostOp) impl.HostOp {
	op.Block = true
	return op
}

func hostPass(wait int64) impl.HostOp { return impl.HostOp{Kind: impl.HostPass, Wait: wait} }

// frameAt is a frame for whoever has a hardware address; those of plainHost have the link's number and 1.
func frameAt(link int, to, kind int64, payload []byte) impl.HostOp {
	b := plainFrame(impl.Frame{Dst: to, Src: 777, Type: kind, Payload: payload})
	return impl.HostOp{Kind: impl.HostTake, Link: int64(link), Data: b}
}

// comingAt is a packet in a frame.
func comingAt(link int, p impl.Packet) impl.HostOp {
	return frameAt(link, int64(link+1), impl.FrameIP, plainPacket(p))
}

// tellsAt is the reply of whoever has an address at a link.
func tellsAt(link int, addr int64) impl.HostOp {
	a := impl.Arp{Op: impl.ArpReply, SenderMac: macOf(addr), Sender: addr, TargetMac: int64(link + 1), Target: atLink(link, 1)}
	return frameAt(link, int64(link+1), impl.FrameArp, plainArp(a))
}

// asksAt lets the host know who has an address at a link, by being asked.
func asksAt(link int, addr int64) impl.HostOp {
	a := impl.Arp{Op: impl.ArpRequest, SenderMac: macOf(addr), Sender: addr, Target: atLink(link, 1)}
	return frameAt(link, lastMac, impl.FrameArp, plainArp(a))
}

func udpPacket(from, to place, data string) impl.Packet {
	d := impl.Datagram{SrcPort: from.port, DstPort: to.port, Data: []byte(data)}
	return impl.Packet{TTL: 64, Proto: impl.ProtoUdp, Src: from.addr, Dst: to.addr, Payload: plainUdp(d, way{from.addr, to.addr})}
}

func icmpPacket(from, to int64, m impl.Icmp) impl.Packet {
	return impl.Packet{TTL: 64, Proto: impl.ProtoIcmp, Src: from, Dst: to, Payload: plainIcmp(m)}
}

func echoPacket(from, to int64, kind, number, echo int64, data string) impl.Packet {
	return icmpPacket(from, to, impl.Icmp{Type: kind, Rest: number<<16 + echo, Body: []byte(data)})
}

// segmentPacket has a segment of a text without ports.
func segmentPacket(t *testing.T, from, to place, text string, data ...byte) impl.Packet {
	t.Helper()
	s, code := impl.ReadSegment(fmt.Sprintf("%d>%d %s", from.port, to.port, text))
	if code != impl.OK {
		t.Fatalf("no segment: %q", text)
	}
	s.Data = data
	return impl.Packet{TTL: 64, DF: true, Proto: impl.ProtoTcp, Src: from.addr, Dst: to.addr, Payload: plainSegment(s, way{from.addr, to.addr})}
}

// changed is a packet with a few things set.
func changed(p impl.Packet, set func(p *impl.Packet)) impl.Packet {
	set(&p)
	return p
}

// Own and other places of most tests.
var (
	ownUdp   = place{atLink(0, 1), 53}
	otherUdp = place{atLink(0, 2), 5353}
	ownWeb   = place{atLink(0, 1), 80}
	otherWeb = place{atLink(0, 2), 5000}
)

func TestHostNumbers(t *testing.T) {
	for i, pair := range [][2]int64{
		{impl.MaxLinks, 8}, {impl.MinMtu, 128}, {impl.MaxSocks, 128}, {impl.MaxQueue, 32}, {impl.MaxWaiting, 32}, {impl.Backlog, 8},
		{impl.FirstPort, 49152}, {impl.HostBuffer, 16384}, {impl.HostTake, 1}, {impl.HostPass, 2}, {impl.HostUdp, 3}, {impl.HostPing, 4},
		{impl.HostSend, 5}, {impl.HostRecv, 6}, {impl.HostListen, 7}, {impl.HostConnect, 8}, {impl.HostAccept, 9}, {impl.HostWrite, 10},
		{impl.HostRead, 11}, {impl.HostShut, 12}, {impl.HostAbort, 13}, {impl.HostDrop, 14},
	} {
		if pair[0] != pair[1] {
			t.Errorf("number %d: %d, not %d", i, pair[0], pair[1])
		}
	}
}

// hostWith is a host of two links, with a few things set.
func hostWith(set func(c *impl.HostConfig)) impl.HostConfig {
	c := plainHost(500, 1500)
	set(&c)
	return c
}

func checkHostOK(t *testing.T, what string, c impl.HostConfig, want bool) {
	t.Helper()
	if got := impl.HostOK(c); got != want {
		t.Errorf("%s: HostOK tells %v", what, got)
	}
	outs, code := impl.RunHost(c, []impl.HostOp{hostMakes(impl.HostUdp, 0)})
	if code != codeFor(want) || (len(outs) == 1) != want {
		t.Errorf("%s: %d answers, %d", what, len(outs), code)
	}
}

func TestHostBoundsItsLinks(t *testing.T) {
	for n, want := range map[int]bool{0: false, 1: true, 2: true, 7: true, 8: true, 9: false, 100: false} {
		c := plainHost(make([]int64, n)...)
		for i := range c.Links {
			c.Links[i].Mtu = 1500
		}
		checkHostOK(t, fmt.Sprint(n, " links"), c, want)
	}
}

func TestHostAsksEachLink(t *testing.T) {
	for i := range 2 {
		for _, n := range aboutEnds(lastMac, 0, 1000) {
			c := hostWith(func(c *impl.HostConfig) { c.Links[i].Mac = n })
			other := c.Links[1-i].Mac
			checkHostOK(t, fmt.Sprint("hardware address ", n), c, n >= 0 && n < lastMac && n != other)
		}
		for _, n := range aboutEnds(128, 1500, 1499, 500) {
			checkHostOK(t, fmt.Sprint("mtu ", n), hostWith(func(c *impl.HostConfig) { c.Links[i].Mtu = n }), n >= 128 && n <= 1500)
		}
		for _, p := range append(illPrefixes(), impl.Prefix{Addr: atLink(5, 0), Bits: 24}, impl.Prefix{Addr: atLink(i, 2), Bits: 31}) {
			checkHostOK(t, fmt.Sprint("prefix ", p), hostWith(func(c *impl.HostConfig) { c.Links[i].Prefix = p }), false)
		}
		for _, n := range aboutEnds(atLink(i, 0), atLink(i, 255), atLink(i, 1)) {
			c := hostWith(func(c *impl.HostConfig) { c.Links[i].Addr = n })
			checkHostOK(t, fmt.Sprint("address ", n), c, n >= atLink(i, 0) && n < atLink(i, 255))
		}
	}
}

// The kind of an address is asked, too, where its prefix has all of them.
func TestHostAsksTheKindOfItsAddresses(t *testing.T) {
	for _, n := range addrsOfEachKind() {
		c := plainHost(500)
		c.Links[0].Prefix, c.Links[0].Addr = impl.Prefix{}, n
		checkHostOK(t, fmt.Sprint("address ", n), c, n > 0 && n>>24 != 127 && n < 224<<24)
	}
	for addr, want := range map[int64]bool{atLink(0, 6): true, atLink(0, 7): false, atLink(0, 5): false, atLink(0, 8): false} {
		c := plainHost(500)
		c.Links[0].Prefix, c.Links[0].Addr = impl.Prefix{Addr: atLink(0, 6), Bits: 31}, addr
		checkHostOK(t, fmt.Sprint("one of two ", addr), c, want)
	}
	c := plainHost(500)
	c.Links[0].Prefix.Bits = 32
	c.Links[0].Prefix.Addr = c.Links[0].Addr
	checkHostOK(t, "alone, and so the last one", c, false)
}

func TestHostLinksDiffer(t *testing.T) {
	for i := range 3 {
		for j := range 3 {
			c := plainHost(500, 500, 500)
			c.Links[i].Mac = c.Links[j].Mac
			checkHostOK(t, fmt.Sprint("the hardware addresses of ", i, j), c, i == j)
			c = plainHost(500, 500, 500)
			c.Links[i].Prefix, c.Links[i].Addr = c.Links[j].Prefix, c.Links[j].Addr
			checkHostOK(t, fmt.Sprint("the addresses of ", i, j), c, i == j)
			c.Links[i].Addr += 5
			checkHostOK(t, fmt.Sprint("the prefixes of ", i, j), c, true)
		}
	}
}

func TestHostAsksItsRoutes(t *testing.T) {
	with := func(list ...impl.Route) impl.HostConfig {
		return hostWith(func(c *impl.HostConfig) { c.Routes = list })
	}
	for _, n := range []int{0, 1, 63, 64, 65, 200} {
		checkHostOK(t, fmt.Sprint(n, " routes"), with(make([]impl.Route, n)...), n <= 64)
	}
	for _, r := range illRoutes() {
		checkHostOK(t, fmt.Sprint("route ", r), with(r), false)
		checkHostOK(t, fmt.Sprint("route behind another one ", r), with(impl.Route{Link: 1}, r), false)
		checkHostOK(t, fmt.Sprint("route ahead of another one ", r), with(r, impl.Route{Link: 1}), false)
	}
	for link, want := range map[int64]bool{-1: false, 0: true, 1: true, 2: false, 7: false, 8: false} {
		checkHostOK(t, fmt.Sprint("link ", link), with(impl.Route{Link: link}), want)
	}
	for via, want := range map[int64]bool{atLink(0, 1): false, atLink(1, 1): false, atLink(0, 2): true, atLink(0, 255): true, farNet: true, 0: true, 127 << 24: false} {
		for link := range int64(2) {
			checkHostOK(t, fmt.Sprint("via ", via), with(impl.Route{Via: via, Link: link}), want)
		}
	}
}

func TestHostAsksItsRules(t *testing.T) {
	with := func(list ...impl.Rule) impl.HostConfig {
		return hostWith(func(c *impl.HostConfig) { c.Rules = list })
	}
	fine := ruleOf(1, 3, 0)
	for _, n := range []int{0, 1, 63, 64, 65, 200} {
		var list []impl.Rule
		for range n {
			list = append(list, fine)
		}
		checkHostOK(t, fmt.Sprint(n, " rules"), with(list...), n <= 64)
	}
	for _, r := range illRules() {
		checkHostOK(t, fmt.Sprint("rule ", r), with(r), false)
		checkHostOK(t, fmt.Sprint("rule behind another one ", r), with(fine, r), false)
		checkHostOK(t, fmt.Sprint("rule ahead of another one ", r), with(r, fine), false)
	}
}

func TestHostAsksItsSecret(t *testing.T) {
	for _, n := range aboutEnds(lastAddr) {
		checkHostOK(t, fmt.Sprint("secret ", n), hostWith(func(c *impl.HostConfig) { c.Secret = n }), n >= 0 && n <= lastAddr)
	}
}

// A configuration that is not valid is told ahead of operations that are too many.
func TestRunHostBoundsItsOperations(t *testing.T) {
	ill := hostWith(func(c *impl.HostConfig) { c.Secret = -1 })
	for _, n := range []int{0, 1, 1999, 2000, 2001, 5000} {
		outs, code := impl.RunHost(plainHost(500), make([]impl.HostOp, n))
		if wanted := n <= 2000; wanted != (code == impl.OK) || wanted != (len(outs) == n) && n > 0 || !wanted && code != impl.ErrCount {
			t.Errorf("%d operations: %d answers, %d", n, len(outs), code)
		}
		if outs, code := impl.RunHost(ill, make([]impl.HostOp, n)); outs != nil || code != impl.ErrForm {
			t.Errorf("%d operations of no host: %d answers, %d", n, len(outs), code)
		}
	}
}

// fourKinds makes the sockets 1 for datagrams, 2 for echoes, 3 listening, 4 a stream that connects, and 5 that is gone.
func fourKinds() []impl.HostOp {
	return []impl.HostOp{
		hostMakes(impl.HostUdp, 53), hostMakes(impl.HostPing, 9), hostMakes(impl.HostListen, 80), hostConnects(otherWeb),
		hostMakes(impl.HostUdp, 7), hostOp(impl.HostDrop, 5),
	}
}

// What an operation on a socket of another kind might else answer is not told.
func TestHostAsksForTheSocket(t *testing.T) {
	told := map[int64][]string{
		impl.HostSend: {"route", "route", "", ""}, impl.HostRecv: {"wait", "wait", "", ""}, impl.HostAccept: {"", "", "wait", ""},
		impl.HostWrite: {"", "", "", "ok took 3"}, impl.HostRead: {"", "", "", "wait"}, impl.HostShut: {"", "", "", "ok"},
		impl.HostAbort: {"", "", "", "ok"}, impl.HostDrop: {"ok", "ok", "ok", "ok"},
	}
	for kind := int64(impl.HostSend); kind <= impl.HostDrop; kind++ {
		if kind == impl.HostListen || kind == impl.HostConnect {
			continue
		}
		for sock := range int64(4) {
			h := newHostTest(t, plainHost(500))
			h.each(fourKinds()...)
			want := told[kind][sock] + fmt.Sprint(" =", 4-oneIf(kind == impl.HostDrop))
			if told[kind][sock] == "" {
				want = "state =4"
				h.do(impl.HostOp{Kind: kind, Sock: sock + 1, Port: -1, N: -1, Addr: -1, Data: make([]byte, 300000), Block: true}, want)
			}
			h.do(impl.HostOp{Kind: kind, Sock: sock + 1, N: 5, Data: []byte("abc")}, want)
			h.check()
		}
		h := newHostTest(t, plainHost(500))
		h.each(fourKinds()...)
		for _, sock := range append(edgeNumbers(), 5, 6, 127, 128, 129) {
			if sock >= 1 && sock <= 4 {
				continue
			}
			h.do(impl.HostOp{Kind: kind, Sock: sock, Port: -1, N: -1, Block: true}, "state =4")
		}
		h.check()
	}
}

// P32: no more than 128 sockets are made, those that are gone among them; other errors are told ahead of that.
func TestHostSocketsAreBounded(t *testing.T) {
	h := newHostTest(t, plainHost(500))
	h.do(hostMakes(impl.HostListen, 80), "ok sock 1 port 80 =1")
	h.do(hostMakes(impl.HostPing, 0), "ok sock 2 =2")
	for i := int64(3); i <= 127; i++ {
		h.do(hostMakes(impl.HostUdp, 0), fmt.Sprintf("ok sock %d port 49152 =3", i))
		h.do(hostOp(impl.HostDrop, i), "ok =2")
	}
	h.do(hostMakes(impl.HostUdp, 53), "ok sock 128 port 53 =3")
	full := []impl.HostOp{
		hostMakes(impl.HostUdp, 0), hostMakes(impl.HostUdp, 54), hostMakes(impl.HostPing, 1), hostMakes(impl.HostListen, 81), hostConnects(otherWeb),
	}
	for _, op := range full {
		h.do(op, "full =3")
		h.do(blocking(op), "full =3")
	}
	h.do(hostMakes(impl.HostUdp, 53), "port =3")
	h.do(hostMakes(impl.HostPing, 0), "port =3")
	h.do(hostMakes(impl.HostListen, 80), "port =3")
	h.do(hostConnects(place{atLink(0, 1), 80}), "route =3")
	h.do(hostConnects(place{atLink(0, 2), 0}), "form =3")
	for _, kind := range []int64{impl.HostUdp, impl.HostPing, impl.HostListen} {
		h.do(hostMakes(kind, 65536), "form =3")
	}
	h.do(asksAt(0, otherWeb.addr), "ok | 0 to 1002 tell 10.0.0.2 =3")
	h.do(comingAt(0, segmentPacket(t, otherWeb, ownWeb, "S 70 0 1000")), "ok =3")
	h.do(hostOp(impl.HostDrop, 128), "ok =2")
	h.do(hostMakes(impl.HostUdp, 53), "full =2")
	h.do(hostMakes(impl.HostUdp, 0), "full =2")
	h.check()
}

func TestHostPorts(t *testing.T) {
	h := newHostTest(t, plainHost(500))
	h.do(hostMakes(impl.HostUdp, 0), "ok sock 1 port 49152 =1")
	h.do(hostMakes(impl.HostUdp, 49154), "ok sock 2 port 49154 =2")
	h.do(hostMakes(impl.HostUdp, 0), "ok sock 3 port 49153 =3")
	h.do(hostMakes(impl.HostUdp, 0), "ok sock 4 port 49155 =4")
	h.do(hostOp(impl.HostDrop, 1), "ok =3")
	h.do(hostMakes(impl.HostUdp, 49153), "port =3")
	h.do(hostMakes(impl.HostUdp, 0), "ok sock 5 port 49152 =4")
	h.do(hostMakes(impl.HostPing, 49152), "ok sock 6 port 49152 =5")
	h.do(hostMakes(impl.HostPing, 49152), "port =5")
	h.do(hostMakes(impl.HostPing, 0), "ok sock 7 =6")
	h.do(hostMakes(impl.HostPing, 0), "port =6")
	h.do(hostMakes(impl.HostListen, 49152), "ok sock 8 port 49152 =7")
	h.do(hostMakes(impl.HostListen, 49152), "port =7")
	h.do(hostOp(impl.HostDrop, 8), "ok =6")
	h.do(hostMakes(impl.HostListen, 49152), "ok sock 9 port 49152 =7")
	h.do(hostOp(impl.HostDrop, 6), "ok =6")
	h.do(hostMakes(impl.HostPing, 49152), "ok sock 10 port 49152 =7")
	h.check()
}

// A stream's port is the least one that no listening socket has, and no stream but closed ones.
func TestHostPortsOfStreams(t *testing.T) {
	h := newHostTest(t, plainHost(500))
	h.do(hostMakes(impl.HostUdp, 49152), "ok sock 1 port 49152 =1")
	h.do(hostMakes(impl.HostPing, 49152), "ok sock 2 port 49152 =2")
	h.do(hostConnects(otherWeb), "ok sock 3 port 49152 | 0 who 10.0.0.2 =3")
	h.do(hostMakes(impl.HostListen, 49153), "ok sock 4 port 49153 =4")
	h.do(hostConnects(otherWeb), "ok sock 5 port 49154 =5")
	h.do(hostMakes(impl.HostListen, 49154), "ok sock 6 port 49154 =6")
	h.do(hostConnects(place{atLink(0, 3), 9}), "ok sock 7 port 49155 | 0 who 10.0.0.3 =7")
	h.do(hostOp(impl.HostAbort, 3), "ok =7")
	h.do(hostConnects(otherWeb), "ok sock 8 port 49152 =8")
	h.do(hostOp(impl.HostAbort, 5), "ok =8")
	h.do(hostConnects(otherWeb), "ok sock 9 port 49156 =9")
	h.do(hostOp(impl.HostDrop, 6), "ok =8")
	h.do(hostOp(impl.HostDrop, 4), "ok =7")
	h.do(hostOp(impl.HostDrop, 8), "ok =6")
	for i, port := range []int64{49152, 49153, 49154, 49157} {
		h.do(hostConnects(otherWeb), fmt.Sprintf("ok sock %d port %d =%d", 10+i, port, 7+i))
	}
	h.check()
}

func TestHostAsksThePorts(t *testing.T) {
	for _, port := range aboutEnds(0, 1, 65535) {
		form := func(valid bool, told string) string {
			if valid {
				return told
			}
			return "form =0"
		}
		shown := strings.Repeat(fmt.Sprint(" port ", port), int(oneIf(port != 0)))
		some, any := port >= 1 && port <= 65535, port >= 0 && port <= 65535
		for _, c := range []struct {
			op   impl.HostOp
			told string
		}{
			{hostMakes(impl.HostUdp, port), form(some, "ok sock 1"+shown+" =1")},
			{hostMakes(impl.HostPing, port), form(any, "ok sock 1"+shown+" =1")},
			{hostMakes(impl.HostListen, port), form(some, "ok sock 1"+shown+" =1")},
			{hostConnects(place{atLink(0, 2), port}), form(some, "ok sock 1 port 49152 | 0 who 10.0.0.2 =1")},
			// An ill port is told ahead of an address that cannot be reached.
			{hostConnects(place{atLink(0, 1), port}), form(some, "route =0")},
		} {
			if c.op.Kind == impl.HostUdp && port == 0 {
				c.told = "ok sock 1 port 49152 =1"
			}
			h := newHostTest(t, plainHost(500))
			h.do(c.op, c.told)
			h.check()
		}
	}
}

// Ill ports are told ahead of addresses that cannot be reached, and these ahead of bytes that are too many.
func TestHostSendTellsTheFirstError(t *testing.T) {
	for _, kind := range []int64{impl.HostUdp, impl.HostPing} {
		for _, port := range aboutEnds(0, 65535) {
			for size, last := range map[int]string{0: "ok", 65000: "ok", 65001: "size", 66000: "size"} {
				for addr, reached := range map[int64]bool{atLink(0, 2): true, atLink(0, 1): false} {
					told := last
					if !reached {
						told = "route"
					}
					if port < 0 || port > 65535 {
						told = "form"
					}
					h := newHostTest(t, plainHost(500))
					h.each(hostMakes(kind, 53))
					if told == "ok" {
						told += " | 0 who 10.0.0.2"
					}
					h.do(hostSends(1, place{addr, port}, strings.Repeat("x", size)), told+" =1")
					h.check()
				}
			}
		}
	}
}

// wayHost has a route to what is far, and one for an address that a link has, too.
func wayHost() impl.HostConfig {
	c := plainHost(500, 500)
	c.Routes = []impl.Route{
		{Prefix: impl.Prefix{Addr: farNet, Bits: 16}, Via: atLink(1, 9), Link: 1},
		{Prefix: impl.Prefix{Addr: atLink(0, 0), Bits: 24}, Link: 1},
		{Prefix: impl.Prefix{Addr: atLink(1, 200), Bits: 32}, Link: 0},
		{Prefix: impl.Prefix{Addr: atLink(0, 255), Bits: 32}, Link: 1},
	}
	return c
}

func TestHostReachesAddresses(t *testing.T) {
	unreached := append(edgeNumbers(), 127<<24|1, 224<<24|1, 240<<24|1, atLink(0, 1), atLink(1, 1), atLink(0, 255), atLink(1, 255),
		172<<24|16<<16|1, 1<<32+atLink(0, 2), -atLink(0, 2))
	for _, addr := range unreached {
		h := newHostTest(t, wayHost())
		h.each(hostMakes(impl.HostUdp, 53), hostMakes(impl.HostPing, 9))
		h.do(hostSends(1, place{addr, 5}, "who"), "route =2")
		h.do(hostSends(2, place{addr, 5}, "who"), "route =2")
		h.do(hostConnects(place{addr, 5}), "route =2")
		h.check()
	}
	for addr, way := range map[int64]string{
		atLink(0, 2): "0 who 10.0.0.2", atLink(0, 0): "0 who 10.0.0.0", atLink(0, 254): "0 who 10.0.0.254", atLink(1, 2): "1 who 10.0.1.2",
		atLink(1, 200): "0 who 10.0.1.200", farNet | 5: "1 who 10.0.1.9", farNet | 65535: "1 who 10.0.1.9",
	} {
		h := newHostTest(t, wayHost())
		h.each(hostMakes(impl.HostUdp, 53), hostMakes(impl.HostPing, 9))
		h.do(hostSends(1, place{addr, 5}, "who"), "ok | "+way+" =2")
		h.do(hostSends(2, place{addr, 5}, "who"), "ok =2")
		h.do(hostConnects(place{addr, 5}), "ok sock 3 port 49152 =3")
		h.check()
	}
}

// complaintOf quotes a packet with so many bytes of its payload.
func complaintOf(about impl.Packet, to, kind, code, rest int64, bytes int) impl.Packet {
	b := plainPacket(about)
	return icmpPacket(atLink(0, 2), to, impl.Icmp{Type: kind, Code: code, Rest: rest, Body: b[:min(len(b), 20+bytes)]})
}

// A refusal is told once for all so far, ahead of what waits.
func TestHostRefusals(t *testing.T) {
	refusal := comingAt(0, complaintOf(udpPacket(ownUdp, otherUdp, "who"), ownUdp.addr, 3, 3, 0, 8))
	data := comingAt(0, udpPacket(otherUdp, ownUdp, "yes"))
	recv := hostOp(impl.HostRecv, 1)
	h := newHostTest(t, plainHost(500))
	h.do(hostMakes(impl.HostUdp, 53), "ok sock 1 port 53 =1")
	h.do(data, "ok =1")
	h.do(refusal, "ok =1")
	h.do(refusal, "ok =1")
	h.do(recv, "refused =1")
	h.do(recv, "ok from 10.0.0.2 port 5353 yes =1")
	h.do(recv, "wait =1")
	h.do(blocking(recv), "wait waits =1/1")
	h.do(blocking(recv), "wait waits =1/2")
	h.do(refusal, "ok ! 7 refused =1/1")
	h.do(data, "ok ! 8 ok from 10.0.0.2 port 5353 yes =1")
	h.do(refusal, "ok =1")
	h.do(blocking(recv), "refused =1")
	h.do(hostOp(impl.HostDrop, 1), "ok =0")
	h.do(hostMakes(impl.HostUdp, 53), "ok sock 2 port 53 =1")
	h.do(hostOp(impl.HostRecv, 2), "wait =1")
	h.check()
}

// Only what is unreachable, but for what is too big, refuses, and only the socket on the quoted port of an own address.
func TestHostWhatRefuses(t *testing.T) {
	own, second := ownUdp, place{atLink(1, 1), 53}
	said := udpPacket(own, otherUdp, "who")
	tests := []struct {
		p       impl.Packet
		refuses bool
	}{
		{complaintOf(said, own.addr, 3, 0, 0, 8), true},
		{complaintOf(said, own.addr, 3, 1, 0, 8), true},
		{complaintOf(said, own.addr, 3, 2, 0, 8), true},
		{complaintOf(said, own.addr, 3, 3, 0, 8), true},
		{complaintOf(said, own.addr, 3, 4, 500, 8), false},
		{complaintOf(said, own.addr, 3, 5, 0, 8), true},
		{complaintOf(said, own.addr, 3, 13, 99, 100), true},
		{complaintOf(said, own.addr, 3, 255, 0, 8), true},
		{complaintOf(said, own.addr, 11, 0, 0, 8), false},
		{complaintOf(said, own.addr, 11, 1, 0, 8), false},
		{complaintOf(said, own.addr, 8, 3, 0, 8), false},
		{complaintOf(said, own.addr, 0, 3, 0, 8), false},
		{complaintOf(said, own.addr, 4, 3, 0, 8), false},
		{complaintOf(said, own.addr, 3, 3, 0, 7), false},
		{complaintOf(said, second.addr, 3, 3, 0, 8), true},
		{complaintOf(udpPacket(second, otherUdp, "who"), own.addr, 3, 3, 0, 8), true},
		{complaintOf(udpPacket(own, place{farNet | 1, 0}, "who"), own.addr, 3, 3, 0, 8), true},
		{complaintOf(udpPacket(place{atLink(0, 3), 53}, otherUdp, "who"), own.addr, 3, 3, 0, 8), false},
		{complaintOf(udpPacket(otherUdp, own, "who"), own.addr, 3, 3, 0, 8), false},
		{complaintOf(udpPacket(place{own.addr, 54}, otherUdp, "who"), own.addr, 3, 3, 0, 8), false},
		{complaintOf(udpPacket(place{own.addr, 9}, otherUdp, "who"), own.addr, 3, 3, 0, 8), false},
		{complaintOf(changed(said, func(p *impl.Packet) { p.Proto = impl.ProtoTcp }), own.addr, 3, 3, 0, 8), false},
		{complaintOf(changed(said, func(p *impl.Packet) { p.Proto = 99 }), own.addr, 3, 3, 0, 8), false},
		{complaintOf(echoPacket(own.addr, otherUdp.addr, 8, 53, 0, ""), own.addr, 3, 3, 0, 8), false},
		{changed(complaintOf(said, own.addr, 3, 3, 0, 8), func(p *impl.Packet) { p.Payload[12]++ }), false},
	}
	for i, test := range tests {
		h := newHostTest(t, plainHost(500, 500))
		h.do(hostMakes(impl.HostUdp, 53), "ok sock 1 port 53 =1")
		h.do(hostMakes(impl.HostPing, 53), "ok sock 2 port 53 =2")
		h.do(hostMakes(impl.HostUdp, 5353), "ok sock 3 port 5353 =3")
		h.do(hostMakes(impl.HostPing, 9), "ok sock 4 port 9 =4")
		h.do(comingAt(i%2, test.p), "-")
		told := "wait =4"
		if test.refuses {
			told = "refused =4"
		}
		h.do(hostOp(impl.HostRecv, 1), told)
		h.do(hostOp(impl.HostRecv, 1), "wait =4")
		for sock := int64(2); sock <= 4; sock++ {
			h.do(hostOp(impl.HostRecv, sock), "wait =4")
		}
		h.check()
	}
}

// P34: 32 may wait; each of the others is told as if it could not.
func TestHostWaitingIsBounded(t *testing.T) {
	recv := blocking(hostOp(impl.HostRecv, 1))
	h := newHostTest(t, plainHost(500))
	h.each(hostMakes(impl.HostUdp, 53), hostMakes(impl.HostPing, 9), hostMakes(impl.HostListen, 80))
	for i := 1; i <= 32; i++ {
		h.do(recv, fmt.Sprint("wait waits =3/", i))
	}
	h.do(recv, "wait =3/32")
	h.do(blocking(hostOp(impl.HostRecv, 2)), "wait =3/32")
	h.do(blocking(hostOp(impl.HostAccept, 3)), "wait =3/32")
	h.do(comingAt(0, udpPacket(otherUdp, ownUdp, "a")), "ok ! 3 ok from 10.0.0.2 port 5353 a =3/31")
	h.do(blocking(hostOp(impl.HostRecv, 2)), "wait waits =3/32")
	h.do(recv, "wait =3/32")
	for i := range 31 {
		h.do(comingAt(0, udpPacket(otherUdp, ownUdp, "b")), fmt.Sprintf("ok ! %d ok from 10.0.0.2 port 5353 b =3/%d", i+4, 31-i))
	}
	h.do(comingAt(0, udpPacket(otherUdp, ownUdp, "c")), "ok =3/1")
	h.do(recv, "ok from 10.0.0.2 port 5353 c =3/1")
	h.do(hostOp(impl.HostDrop, 2), "ok ! 39 state =2")
	h.check()
}

// What waits for the same ends in the order of the tickets, and is tried behind each operation, whatever that is.
func TestHostWaitsInOrder(t *testing.T) {
	h := newHostTest(t, plainHost(500))
	h.each(hostMakes(impl.HostUdp, 53), hostMakes(impl.HostUdp, 54), hostMakes(impl.HostPing, 9))
	h.do(blocking(hostOp(impl.HostRecv, 2)), "wait waits =3/1")
	h.do(blocking(hostOp(impl.HostRecv, 1)), "wait waits =3/2")
	h.do(blocking(hostOp(impl.HostRecv, 3)), "wait waits =3/3")
	h.do(blocking(hostOp(impl.HostRecv, 1)), "wait waits =3/4")
	h.do(comingAt(0, udpPacket(otherUdp, place{ownUdp.addr, 53}, "a")), "ok ! 4 ok from 10.0.0.2 port 5353 a =3/3")
	h.do(comingAt(0, echoPacket(otherUdp.addr, ownUdp.addr, 0, 9, 65535, "e")), "ok ! 5 ok from 10.0.0.2 port 65535 e =3/2")
	h.do(hostOp(impl.HostDrop, 2), "ok ! 3 state =2/1")
	h.do(hostMakes(impl.HostUdp, 54), "ok sock 4 port 54 =3/1")
	h.do(blocking(hostOp(impl.HostRecv, 1)), "wait waits =3/2")
	h.do(hostOp(impl.HostDrop, 1), "ok ! 6 state ! 11 state =2")
	h.do(hostPass(5), "ok =2")
	h.check()
}

// Nothing else than the four kinds waits, and these only with Block, and for nothing but what was not there yet.
func TestHostWhatWaits(t *testing.T) {
	h := newHostTest(t, plainHost(500))
	h.each(fourKinds()...)
	h.do(hostOp(impl.HostRecv, 1), "wait =4")
	h.do(hostOp(impl.HostAccept, 3), "wait =4")
	h.do(hostReads(4, 1), "wait =4")
	h.do(blocking(hostReads(4, 0)), "form =4")
	h.do(blocking(hostWrites(4, make([]byte, 262145))), "form =4")
	h.do(blocking(hostWrites(4, streamBytes(0, 16384))), "ok took 16384 =4")
	h.do(hostWrites(4, []byte("x")), "full =4")
	h.do(blocking(hostWrites(4, nil)), "ok =4")
	h.do(blocking(hostWrites(4, []byte("x"))), "full waits =4/1")
	h.do(blocking(hostReads(4, 1)), "wait waits =4/2")
	h.do(blocking(hostOp(impl.HostAccept, 3)), "wait waits =4/3")
	h.do(blocking(hostOp(impl.HostRecv, 2)), "wait waits =4/4")
	for _, op := range []impl.HostOp{
		hostSends(1, place{1, 1}, ""), hostMakes(impl.HostUdp, 53), hostOp(impl.HostRecv, 5), hostOp(impl.HostRecv, 4), {Kind: 0}, {Kind: 15}, {Kind: -1},
		{Kind: impl.HostTake, Link: 1}, hostPass(-1),
	} {
		told := map[int64]string{impl.HostSend: "route", impl.HostUdp: "port", impl.HostRecv: "state"}[op.Kind]
		if told == "" {
			told = "form"
		}
		h.do(blocking(op), told+" =4/4")
	}
	h.do(blocking(hostOp(impl.HostAbort, 4)), "ok ! 14 closed ! 15 closed =4/2")
	h.do(hostOp(impl.HostDrop, 3), "ok ! 16 state =3/1")
	h.check()
}

// segment is one that comes to a stream; ack is a place of the own stream.
func (h *hostTest) segment(own, other place, flags string, seq, ack, window int64, data ...byte) impl.HostOp {
	h.t.Helper()
	if strings.Contains(flags, "A") {
		ack = (h.texts.first[[2]place{own, other}] + ack) % allSeqs
	}
	p := segmentPacket(h.t, other, own, fmt.Sprintf("%s %d %d %d", flags, seq, ack, window), data...)
	return comingAt(int(other.addr>>8&255), p)
}

// opens lets the neighbour be known, and a stream come in whose other end begins at 70.
func (h *hostTest) opens(own, other place) {
	h.t.Helper()
	h.stream(h.m.now, own, other)
	h.each(asksAt(int(other.addr>>8&255), other.addr), h.segment(own, other, "S", 70, 0, 1000), h.segment(own, other, "A", 71, 1, 1000))
}

func otherAt(port int64) place { return place{otherWeb.addr, port} }

// streamText begins what is told of a segment that goes to the port of a neighbour that is known.
func streamText(port int64, rest string) string {
	return fmt.Sprintf(" | 0 to 1002 tcp 10.0.0.1:80>10.0.0.2:%d %s", port, rest)
}

// A stream that comes in is linked, then open, then accepted; what it reads and writes is told.
func TestHostStreamComesIn(t *testing.T) {
	h := newHostTest(t, plainHost(500))
	h.stream(0, ownWeb, otherWeb)
	h.do(hostMakes(impl.HostListen, 80), "ok sock 1 port 80 =1")
	h.do(blocking(hostOp(impl.HostAccept, 1)), "wait waits =1/1")
	h.do(asksAt(0, otherWeb.addr), "ok | 0 to 1002 tell 10.0.0.2 =1/1")
	h.do(h.segment(ownWeb, otherWeb, "S", 70, 0, 1000), "ok"+streamText(5000, "SA 0 71 16384 mss 460 #0 df =2/1"))
	h.do(h.segment(ownWeb, otherWeb, "A", 71, 1, 1000), "ok ! 1 ok sock 2 from 10.0.0.2 port 5000 =2")
	h.do(blocking(hostReads(2, 4)), "wait waits =2/1")
	h.do(h.segment(ownWeb, otherWeb, "PA", 71, 1, 1000, streamBytes(0, 6)...), "ok ! 5 ok *4 =2")
	h.do(hostPass(39), "ok =2")
	h.do(hostPass(1), "ok"+streamText(5000, "A 1 77 16378 #1 df =2"))
	h.do(hostReads(2, 4), "ok "+fmt.Sprintf("%x", streamBytes(4, 2))+" =2")
	h.do(hostWrites(2, streamBytes(0, 5)), "ok took 5"+streamText(5000, "PA 1 77 16378 *5 #2 df =2"))
	h.do(h.segment(ownWeb, otherWeb, "FA", 77, 6, 1000), "ok"+streamText(5000, "A 6 78 16377 #3 df =2"))
	h.do(hostReads(2, 1), "closed =2")
	h.do(hostOp(impl.HostShut, 2), "ok"+streamText(5000, "FA 6 78 16377 #4 df =2"))
	h.do(hostOp(impl.HostShut, 2), "state =2")
	h.do(hostWrites(2, []byte("x")), "state =2")
	h.do(h.segment(ownWeb, otherWeb, "A", 78, 7, 1000), "ok =2")
	h.do(hostOp(impl.HostAbort, 2), "state =2")
	h.do(hostWrites(2, []byte("x")), "state =2")
	h.do(hostOp(impl.HostDrop, 2), "ok =1")
	h.check()
}

// A stream that goes out has the port that is told, the address of its route's link, and the Mss of that.
func TestHostStreamGoesOut(t *testing.T) {
	c := wayHost()
	c.Links[0].Mtu = 200
	far := place{farNet | 5, 443}
	own := place{atLink(1, 1), 49152}
	h := newHostTest(t, c)
	h.do(hostPass(1234), "ok =0")
	h.stream(1234, own, far)
	h.do(hostConnects(far), "ok sock 1 port 49152 | 1 who 10.0.1.9 =1")
	h.do(tellsAt(1, atLink(1, 9)), "ok | 1 to 1265 tcp 10.0.1.1:49152>192.168.0.5:443 S 0 0 16384 mss 460 scale 0 sackok #0 df =1")
	h.do(comingAt(1, segmentPacket(t, far, own, fmt.Sprintf("SA 500 %d 2000 mss 100", (issAt(77, 1234, own, far)+1)%allSeqs))),
		"ok | 1 to 1265 tcp 10.0.1.1:49152>192.168.0.5:443 A 1 501 16384 #1 df =1")
	near := place{atLink(0, 2), 443}
	h.stream(1234, place{atLink(0, 1), 49153}, near)
	h.do(asksAt(0, near.addr), "ok | 0 to 1002 tell 10.0.0.2 =1")
	h.do(hostConnects(near), "ok sock 2 port 49153 | 0 to 1002 tcp 10.0.0.1:49153>10.0.0.2:443 S 0 0 16384 mss 160 scale 0 sackok #2 df =2")
	h.check()
}

// The first sequence number is of the time and of the secret, and has both addresses and both ports in it, in this order.
func TestHostFirstSequenceNumbers(t *testing.T) {
	for _, secret := range []int64{0, 1, 77, lastAddr} {
		for _, now := range []int64{0, 1, 1000, 20000000, lastTime} {
			c := plainHost(500)
			c.Secret = secret
			h := newHostTest(t, c)
			h.each(hostPass(now), asksAt(0, otherWeb.addr), hostConnects(otherAt(81)), hostConnects(otherAt(82)), hostMakes(impl.HostListen, 80))
			h.do(h.segment(ownWeb, otherWeb, "S", 70, 0, 1000), "-")
			outs := h.check()
			own := place{ownWeb.addr, 49152}
			want := []int64{issAt(secret, now, own, otherAt(81)), issAt(secret, now, place{ownWeb.addr, 49153}, otherAt(82)), issAt(secret, now, ownWeb, otherWeb)}
			for i, at := range []int{2, 3, 5} {
				f, _ := impl.DecodeFrame(outs[at].Frames[0].Bytes)
				if got := numberOf(f.Payload, 24, 4); got != want[i] {
					t.Errorf("secret %d at %d, stream %d: %d, not %d", secret, now, i, got, want[i])
				}
			}
		}
	}
}

// Streams are accepted by their numbers as soon as they are open, each once, whatever has become of those that are open.
func TestHostAcceptsInOrder(t *testing.T) {
	h := newHostTest(t, plainHost(500))
	h.each(hostMakes(impl.HostListen, 80), hostMakes(impl.HostListen, 81), asksAt(0, otherWeb.addr))
	for port := int64(5000); port < 5006; port++ {
		h.stream(0, ownWeb, otherAt(port))
		h.each(h.segment(ownWeb, otherAt(port), "S", 70, 0, 1000))
	}
	second := place{ownWeb.addr, 81}
	h.opens(second, otherWeb)
	accept := hostOp(impl.HostAccept, 1)
	h.do(accept, "wait =9")
	h.do(h.segment(ownWeb, otherAt(5002), "A", 71, 1, 1000), "ok =9")
	h.do(accept, "ok sock 5 from 10.0.0.2 port 5002 =9")
	h.do(accept, "wait =9")
	h.do(h.segment(ownWeb, otherAt(5003), "A", 71, 1, 1000), "ok =9")
	h.do(h.segment(ownWeb, otherAt(5001), "A", 71, 1, 1000), "ok =9")
	h.do(accept, "ok sock 4 from 10.0.0.2 port 5001 =9")
	h.do(h.segment(ownWeb, otherAt(5000), "RA", 71, 1, 1000), "ok =9")
	h.do(accept, "ok sock 6 from 10.0.0.2 port 5003 =9")
	h.do(accept, "wait =9")
	h.do(h.segment(ownWeb, otherAt(5004), "FA", 71, 1, 1000), "ok"+streamText(5004, "A 1 72 16383 #7 df =9"))
	h.do(h.segment(ownWeb, otherAt(5005), "A", 71, 1, 1000), "ok =9")
	h.do(h.segment(ownWeb, otherAt(5005), "RA", 71, 1, 1000), "ok =9")
	h.do(accept, "ok sock 7 from 10.0.0.2 port 5004 =9")
	h.do(accept, "wait =9")
	h.do(hostOp(impl.HostAccept, 2), "ok sock 9 from 10.0.0.2 port 5000 =9")
	h.do(hostOp(impl.HostDrop, 9), "ok | 0 to 1002 tcp 10.0.0.1:81>10.0.0.2:5000 RA 1 71 0 #8 df =8")
	h.do(hostOp(impl.HostAccept, 2), "wait =8")
	h.check()
}

// A socket that is dropped is gone; a stream aborts ahead of that, if it is not closed, in each state as an end does.
func TestHostDrops(t *testing.T) {
	h := newHostTest(t, plainHost(500))
	h.each(fourKinds()...)
	h.each(tellsAt(0, otherWeb.addr))
	for i, told := range []string{"ok =3", "ok =2", "ok =1", "ok =0"} {
		h.do(hostOp(impl.HostDrop, int64(i+1)), told)
		h.do(hostOp(impl.HostDrop, int64(i+1)), fmt.Sprint("state =", 3-i))
	}
	h.do(hostPass(100000), "ok =0")
	h.check()
}

// inHostState brings the stream from otherWeb to ownWeb, which is socket 2, to a state.
func (h *hostTest) inHostState(state int) {
	h.t.Helper()
	h.stream(h.m.now, ownWeb, otherWeb)
	h.each(hostMakes(impl.HostListen, 80), asksAt(0, otherWeb.addr), h.segment(ownWeb, otherWeb, "S", 70, 0, 1000))
	if state == impl.TcpSynReceived {
		return
	}
	h.each(h.segment(ownWeb, otherWeb, "A", 71, 1, 1000))
	fin, ack := h.segment(ownWeb, otherWeb, "FA", 71, 1, 1000), h.segment(ownWeb, otherWeb, "A", 71, 2, 1000)
	shut := hostOp(impl.HostShut, 2)
	switch state {
	case impl.TcpFinWait1:
		h.each(shut)
	case impl.TcpFinWait2:
		h.each(shut, ack)
	case impl.TcpCloseWait:
		h.each(fin)
	case impl.TcpClosing:
		h.each(shut, fin)
	case impl.TcpLastAck:
		h.each(fin, shut)
	case impl.TcpTimeWait:
		h.each(shut, ack, h.segment(ownWeb, otherWeb, "FA", 71, 2, 1000))
	case impl.TcpClosed:
		h.each(h.segment(ownWeb, otherWeb, "RA", 71, 1, 1000))
	}
	if s := h.m.sockets[1]; s.end.state != int64(state) {
		h.t.Fatalf("the stream is in state %d, not %d", s.end.state, state)
	}
}

func TestHostDropsInEachState(t *testing.T) {
	resets := map[int]string{
		impl.TcpSynReceived: "RA 1 71 0", impl.TcpEstablished: "RA 1 71 0", impl.TcpFinWait1: "RA 2 71 0", impl.TcpFinWait2: "RA 2 71 0",
		impl.TcpCloseWait: "RA 1 72 0", impl.TcpClosing: "RA 2 72 0", impl.TcpLastAck: "RA 2 72 0", impl.TcpTimeWait: "", impl.TcpClosed: "",
	}
	for state, text := range resets {
		for _, sock := range []int64{1, 2} {
			h := newHostTest(t, plainHost(500))
			h.inHostState(state)
			told := "ok"
			if text != "" {
				told += streamText(5000, fmt.Sprint(text, " #", h.m.ids, " df"))
			}
			h.do(hostOp(impl.HostDrop, sock), fmt.Sprint(told, " =", sock-1))
			h.do(hostReads(2, 1), fmt.Sprint("state =", sock-1))
			h.do(hostPass(1000000), fmt.Sprint("ok =", sock-1))
			h.check()
		}
	}
}

// What has been accepted is not the listening socket's any more: it stays when that is dropped.
func TestHostDropsAListeningSocket(t *testing.T) {
	h := newHostTest(t, plainHost(500))
	h.each(hostMakes(impl.HostListen, 80), hostMakes(impl.HostListen, 81))
	for port := int64(5000); port < 5004; port++ {
		h.opens(ownWeb, otherAt(port))
	}
	h.opens(place{ownWeb.addr, 81}, otherWeb)
	h.stream(0, ownWeb, otherAt(5004))
	h.each(h.segment(ownWeb, otherAt(5004), "S", 70, 0, 1000))
	h.do(h.segment(ownWeb, otherAt(5001), "RA", 71, 1, 1000), "ok =8")
	h.do(hostOp(impl.HostAccept, 1), "ok sock 3 from 10.0.0.2 port 5000 =8")
	h.do(hostOp(impl.HostDrop, 6), "ok"+streamText(5003, "RA 1 71 0 #6 df")+" =7")
	h.do(blocking(hostReads(5, 1)), "wait waits =7/1")
	h.do(blocking(hostOp(impl.HostAccept, 1)), "ok sock 5 from 10.0.0.2 port 5002 =7/1")
	h.do(blocking(hostOp(impl.HostAccept, 1)), "wait waits =7/2")
	h.do(hostOp(impl.HostDrop, 1), "ok"+streamText(5004, "RA 1 71 0 #7 df")+fmt.Sprint(" ! ", len(h.ops)-1, " state =4/1"))
	h.do(hostWrites(3, []byte("x")), "ok took 1"+streamText(5000, "PA 1 71 16384 x #8 df =4/1"))
	h.do(hostOp(impl.HostAccept, 2), "ok sock 7 from 10.0.0.2 port 5000 =4/1")
	h.do(h.segment(ownWeb, otherAt(5002), "PA", 71, 1, 1000, 'z'), fmt.Sprint("ok ! ", len(h.ops)-6, " ok z =4"))
	h.do(h.segment(ownWeb, otherAt(5004), "A", 71, 1, 1000), fmt.Sprintf("ok | 0 to 1002 tcp 10.0.0.1:80>10.0.0.2:5004 R %d 0 0 #9 df =4", (h.texts.first[[2]place{ownWeb, otherAt(5004)}]+1)%allSeqs))
	h.check()
}

// Operations on a stream answer what an end answers, in each state.
func TestHostStreamAnswersInEachState(t *testing.T) {
	told := map[int][4]string{
		impl.TcpSynReceived: {"ok took 1", "wait", "ok", "ok RA 1 71 0"},
		impl.TcpEstablished: {"ok took 1 PA 1 71 16384 x", "wait", "ok FA 1 71 16384", "ok RA 1 71 0"},
		impl.TcpFinWait1:    {"state", "wait", "state", "ok RA 2 71 0"},
		impl.TcpFinWait2:    {"state", "wait", "state", "ok RA 2 71 0"},
		impl.TcpCloseWait:   {"ok took 1 PA 1 72 16383 x", "closed", "ok FA 1 72 16383", "ok RA 1 72 0"},
		impl.TcpClosing:     {"state", "closed", "state", "ok RA 2 72 0"},
		impl.TcpLastAck:     {"state", "closed", "state", "ok RA 2 72 0"},
		impl.TcpTimeWait:    {"state", "closed", "state", "ok"},
		impl.TcpClosed:      {"reset", "reset", "state", "state"},
	}
	ops := []impl.HostOp{hostWrites(2, []byte("x")), hostReads(2, 1), hostOp(impl.HostShut, 2), hostOp(impl.HostAbort, 2)}
	for state, texts := range told {
		for i, op := range ops {
			h := newHostTest(t, plainHost(500))
			h.inHostState(state)
			text := texts[i]
			for _, flags := range []string{" PA", " FA", " RA"} {
				if before, after, sends := strings.Cut(text, flags); sends {
					text = before + streamText(5000, strings.TrimSpace(flags)+after+fmt.Sprint(" #", h.m.ids, " df"))
				}
			}
			h.do(hostReads(2, 0), "form =2")
			h.do(hostReads(2, -1), "form =2")
			h.do(hostWrites(2, make([]byte, 262145)), "form =2")
			h.do(op, text+" =2")
			h.check()
		}
	}
}

// A write takes what there is room for; those that wait for room take it in the order of their tickets.
func TestHostWritesWait(t *testing.T) {
	h := newHostTest(t, plainHost(1500))
	h.inHostState(impl.TcpEstablished)
	h.do(hostWrites(2, streamBytes(0, 20000)), "ok took 16384"+streamText(5000, "A 1 71 16384 *536 #1 df =2"))
	h.do(hostWrites(2, streamBytes(16384, 1)), "full =2")
	h.do(blocking(hostWrites(2, streamBytes(16384, 200))), "full waits =2/1")
	h.do(blocking(hostWrites(2, streamBytes(16584, 500))), "full waits =2/2")
	h.do(blocking(hostReads(2, 1)), "wait waits =2/3")
	h.do(h.segment(ownWeb, otherWeb, "A", 71, 537, 0), "ok ! 6 ok took 200 ! 7 ok took 336 =2/1")
	h.do(h.segment(ownWeb, otherWeb, "RA", 71, 537, 10), "ok ! 8 reset =2")
	h.do(blocking(hostWrites(2, streamBytes(0, 1))), "reset =2")
	h.check()
}

// Own packets have numbers that follow each other, and begin again behind 65535; fragments have one number.
func TestHostNumbersItsPackets(t *testing.T) {
	h := newHostTest(t, plainHost(128))
	h.inHostState(impl.TcpEstablished)
	end := h.m.sockets[1].end
	for h.m.ids < 65536+300 {
		h.each(hostWrites(2, streamBytes(end.e()-1, 16384)), h.segment(ownWeb, otherWeb, "A", 71, end.nxt(), 65535))
	}
	h.each(hostMakes(impl.HostUdp, 53), hostSends(3, otherUdp, strings.Repeat("x", 2000)), hostSends(3, otherUdp, "y"))
	next, last := int64(0), int64(0)
	for _, out := range h.check() {
		for _, f := range out.Frames {
			g, _ := impl.DecodeFrame(f.Bytes)
			p, code := impl.DecodeIP(g.Payload)
			if g.Type != impl.FrameIP || code != impl.OK {
				continue
			}
			if p.Offset == 0 {
				last = next % 65536
				next++
			}
			if p.ID != last {
				t.Fatalf("packet %d has the number %d", next-1, p.ID)
			}
		}
	}
	if next < 65536+300 || next != h.m.ids {
		t.Errorf("%d packets, not %d", next, h.m.ids)
	}
}

// handing is a host between two links that hands on, with what is set; a neighbour at each of them is known, 10.0.0.2
// and 10.0.1.2.
func handing(t *testing.T, rules string, mtus ...int64) *hostTest {
	c := plainHost(mtus...)
	c.Forward = true
	c.Routes = []impl.Route{{Prefix: impl.Prefix{Addr: farNet, Bits: 16}, Via: atLink(1, 9), Link: 1}}
	if rules != "" {
		c.Filter, c.Rules = true, rulesOf(t, rules)
	}
	h := newHostTest(t, c)
	h.each(asksAt(0, atLink(0, 2)), asksAt(1, atLink(1, 2)))
	return h
}

// through is a packet of so many bytes of payload from 10.0.0.2 to 10.0.1.2.
func through(n int, set func(p *impl.Packet)) impl.Packet {
	p := udpPacket(otherUdp, place{atLink(1, 2), 53}, strings.Repeat("x", n-8))
	set(&p)
	return p
}

func asItIs(*impl.Packet) {}

func TestHostHandsOn(t *testing.T) {
	data := strings.Repeat("x", 92)
	text := "udp 10.0.0.2:5353>10.0.1.2:53 " + data
	tests := []struct {
		p    impl.Packet
		told string
	}{
		{through(100, asItIs), "ok | 1 to 1258 " + text + " #0 ttl 63 =0"},
		{through(100, func(p *impl.Packet) { p.Tos, p.ID, p.DF, p.Options = 7, 65535, true, make([]byte, 8) }),
			"ok | 1 to 1258 " + text + " #65535 ttl 63 df tos 7 options 8 =0"},
		{through(100, func(p *impl.Packet) { p.TTL = 255 }), "ok | 1 to 1258 " + text + " #0 ttl 254 =0"},
		{through(100, func(p *impl.Packet) { p.TTL = 2 }), "ok | 1 to 1258 " + text + " #0 ttl 1 =0"},
		{through(100, func(p *impl.Packet) { p.TTL = 1 }),
			"ok | 0 to 1002 icmp 10.0.0.1>10.0.0.2 11/0 about p17 10.0.0.2:5353>10.0.1.2:53 #0 ttl 1 #0 =0"},
		{through(100, func(p *impl.Packet) { p.TTL, p.ID = 0, 9 }),
			"ok | 0 to 1002 icmp 10.0.0.1>10.0.0.2 11/0 about p17 10.0.0.2:5353>10.0.1.2:53 #9 ttl 0 #0 =0"},
		{through(100, func(p *impl.Packet) { p.TTL, p.Offset = 1, 8 }), "ok =0"},
		{through(104, func(p *impl.Packet) { p.TTL, p.MF = 1, true }),
			"ok | 0 to 1002 icmp 10.0.0.1>10.0.0.2 11/0 about p17 10.0.0.2:5353>10.0.1.2:53 #0 ttl 1 more #0 =0"},
		{through(100, func(p *impl.Packet) { p.Offset = 800 }), "ok | 1 to 1258 p17 10.0.0.2>10.0.1.2 part 800-900 #0 ttl 63 =0"},
		{through(180, func(p *impl.Packet) { p.DF = true }),
			"ok | 1 to 1258 udp 10.0.0.2:5353>10.0.1.2:53 " + strings.Repeat("x", 172) + " #0 ttl 63 df =0"},
		{through(181, func(p *impl.Packet) { p.DF = true }),
			"ok | 0 to 1002 icmp 10.0.0.1>10.0.0.2 3/4 rest 200 about p17 10.0.0.2:5353>10.0.1.2:53 #0 ttl 63 df #0 =0"},
		{through(181, func(p *impl.Packet) { p.DF, p.Offset = true, 8 }), "ok =0"},
		{through(181, func(p *impl.Packet) { p.DF, p.Proto, p.Payload[0] = true, 1, 3 }), "ok =0"},
		{through(181, func(p *impl.Packet) { p.ID = 5 }),
			"ok | 1 to 1258 p17 10.0.0.2>10.0.1.2 part 0-176 more #5 ttl 63 | 1 to 1258 p17 10.0.0.2>10.0.1.2 part 176-181 #5 ttl 63 =0"},
		{through(100, func(p *impl.Packet) { p.Dst = 172<<24 | 1 }),
			"ok | 0 to 1002 icmp 10.0.0.1>10.0.0.2 3/0 about p17 10.0.0.2:5353>172.0.0.1:53 #0 ttl 63 #0 =0"},
		{through(100, func(p *impl.Packet) { p.Dst, p.Proto, p.Payload[0] = 172<<24|1, 1, 11 }), "ok =0"},
		{through(100, func(p *impl.Packet) { p.Dst, p.Proto, p.Payload[0] = 172<<24|1, 1, 8 }),
			"ok | 0 to 1002 icmp 10.0.0.1>10.0.0.2 3/0 about p1 10.0.0.2>172.0.0.1 #0 ttl 63 #0 =0"},
		{through(100, func(p *impl.Packet) { p.Dst = 172<<24 | 1; p.Src = 172<<24 | 2 }), "ok =0"},
		{through(8, func(p *impl.Packet) { p.Dst, p.Payload = 172<<24|1, p.Payload[:5] }),
			"ok | 0 to 1002 icmp 10.0.0.1>10.0.0.2 3/0 about p17 10.0.0.2>172.0.0.1 #0 ttl 63 with 5 #0 =0"},
		{through(100, func(p *impl.Packet) { p.Dst = farNet | 3 }), "ok | 1 who 10.0.1.9 =0"},
		{through(100, func(p *impl.Packet) { p.Dst = atLink(1, 3) }), "ok | 1 who 10.0.1.3 =0"},
		{through(100, func(p *impl.Packet) { p.Dst = atLink(0, 3) }), "ok | 0 who 10.0.0.3 =0"},
		{through(100, func(p *impl.Packet) { p.Dst, p.Proto, p.Payload = atLink(0, 2), 99, []byte("plain") }),
			"ok | 0 to 1002 p99 10.0.0.2>10.0.0.2 plain #0 ttl 63 =0"},
	}
	for _, dst := range []int64{atLink(0, 255), atLink(1, 255), 0, 127<<24 | 1, 224<<24 | 1, 240<<24 | 1, lastAddr} {
		for _, ttl := range []int64{1, 64} {
			p := through(100, func(p *impl.Packet) { p.Dst, p.TTL = dst, ttl })
			tests = append(tests, struct {
				p    impl.Packet
				told string
			}{p, "ok =0"})
		}
	}
	for _, test := range tests {
		h := handing(t, "", 500, 200)
		h.do(comingAt(0, test.p), test.told)
		h.check()
		h = newHostTest(t, plainHost(500, 200))
		h.do(comingAt(0, test.p), "ok =0")
		h.check()
	}
}

// The filter decides on what comes in for the host, what is handed on, coming in and going out, and what goes out by itself.
func TestHostFilters(t *testing.T) {
	const about = " about p17 10.0.0.2:5353>10.0.1.2:53 #0"
	fine := "ok | 1 to 1258 udp 10.0.0.2:5353>10.0.1.2:53 xxxx #0 ttl 63 =0"
	rejected := "ok | 0 to 1002 icmp 10.0.0.1>10.0.0.2 3/13"
	for _, test := range []struct{ rules, told string }{
		{"pass both any from any to any\n", fine},
		{"pass both udp from any to any\n", fine},
		{"pass in any from any to any\n", "ok =0"},
		{"pass out any from any to any\n", "ok =0"},
		{"", "ok =0"},
		{"reject in udp from any to any\npass both any from any to any\n", rejected + about + " #0 =0"},
		{"drop in udp from any to any\npass both any from any to any\n", "ok =0"},
		{"reject out udp from any to any\npass both any from any to any\n", rejected + about + " ttl 63 #0 =0"},
		{"drop out udp from any to any\npass both any from any to any\n", "ok =0"},
		{"reject out any from any to any\npass both any from any to any\n", "ok =0"},
		{"reject in udp from any to any\nreject out icmp from any to any\npass both any from any to any\n", "ok =0"},
		{"pass in udp from 10.0.0.0/24 port 5353 to 10.0.1.2/32 port 53 new\npass out udp from any to any known\n", fine},
		{"pass in udp from any to any new\nreject out udp from any to any known\npass out icmp from any to any related\n", rejected + about + " ttl 63 #0 =0"},
	} {
		c := handing(t, "", 500, 500).c
		c.Filter, c.Rules = true, rulesOf(t, test.rules)
		h := newHostTest(t, c)
		h.each(asksAt(0, atLink(0, 2)), asksAt(1, atLink(1, 2)))
		p := through(12, func(p *impl.Packet) { p.TTL = 64 })
		h.do(comingAt(0, p), test.told)
		h.check()
		c.Filter = false
		h = newHostTest(t, c)
		h.each(asksAt(0, atLink(0, 2)), asksAt(1, atLink(1, 2)))
		h.do(comingAt(0, p), fine)
		h.check()
	}
}

// The filter is asked ahead of the TTL.
func TestHostFiltersAheadOfTheTTL(t *testing.T) {
	p := through(12, func(p *impl.Packet) { p.TTL = 1 })
	h := handing(t, "drop in udp from any to any\npass both any from any to any\n", 500, 500)
	h.do(comingAt(0, p), "ok =0")
	h.check()
	h = handing(t, "reject in udp from any to any\npass both any from any to any\n", 500, 500)
	h.do(comingAt(0, p), "ok | 0 to 1002 icmp 10.0.0.1>10.0.0.2 3/13 about p17 10.0.0.2:5353>10.0.1.2:53 #0 ttl 1 #0 =0")
	h.check()
	h = handing(t, "drop out udp from any to any\npass both any from any to any\n", 500, 500)
	h.do(comingAt(0, p), "ok | 0 to 1002 icmp 10.0.0.1>10.0.0.2 11/0 about p17 10.0.0.2:5353>10.0.1.2:53 #0 ttl 1 #0 =0")
	h.check()
}

func TestHostFiltersItsOwn(t *testing.T) {
	data := comingAt(0, udpPacket(otherUdp, ownUdp, "a"))
	recv := hostOp(impl.HostRecv, 1)
	for _, test := range []struct{ rules, came, recv, sent string }{
		{"pass both any from any to any\n", "ok =1", "ok from 10.0.0.2 port 5353 a =1", "ok | 0 to 1002 udp 10.0.0.1:53>10.0.0.2:5353 b #0 =1"},
		{"drop both any from any to any\n", "ok =1", "wait =1", "ok =1"},
		{"reject in udp from any to any\npass both any from any to any\n",
			"ok | 0 to 1002 icmp 10.0.0.1>10.0.0.2 3/13 about p17 10.0.0.2:5353>10.0.0.1:53 #0 #0 =1", "wait =1",
			"ok | 0 to 1002 udp 10.0.0.1:53>10.0.0.2:5353 b #1 =1"},
		{"pass in any from any to any\nreject out any from any to any\n", "ok =1", "ok from 10.0.0.2 port 5353 a =1", "ok =1"},
		{"pass in any from any to any known\npass out any from any to any\n", "ok =1", "wait =1", "ok | 0 to 1002 udp 10.0.0.1:53>10.0.0.2:5353 b #0 =1"},
		{"pass in any from any to any\npass out any from any to any known\n", "ok =1", "ok from 10.0.0.2 port 5353 a =1",
			"ok | 0 to 1002 udp 10.0.0.1:53>10.0.0.2:5353 b #0 =1"},
	} {
		c := plainHost(500)
		c.Filter, c.Rules = true, rulesOf(t, test.rules)
		h := newHostTest(t, c)
		h.each(asksAt(0, atLink(0, 2)), hostMakes(impl.HostUdp, 53))
		h.do(data, test.came)
		h.do(recv, test.recv)
		h.do(hostSends(1, otherUdp, "b"), test.sent)
		h.check()
	}
}

// Flows are forgotten as time passes, to the millisecond, and what has gone out lets its answer in until then.
func TestHostFiltersWait(t *testing.T) {
	for wait, recv := range map[int64]string{0: "ok from 10.0.0.2 port 5353 a =1", 29999: "ok from 10.0.0.2 port 5353 a =1", 30000: "wait =1", 40000: "wait =1"} {
		for _, first := range []int64{0, 1, 7000} {
			c := plainHost(500)
			c.Filter, c.Rules = true, rulesOf(t, "pass out any from any to any\npass in any from any to any known\n")
			h := newHostTest(t, c)
			h.each(hostPass(555), asksAt(0, atLink(0, 2)), hostMakes(impl.HostUdp, 53), hostSends(1, otherUdp, "b"))
			if first <= wait {
				h.each(hostPass(first), hostPass(wait-first))
			} else {
				h.each(hostPass(wait))
			}
			h.do(comingAt(0, udpPacket(otherUdp, ownUdp, "a")), "ok =1")
			h.do(hostOp(impl.HostRecv, 1), recv)
			h.check()
		}
	}
}

// A fragmented packet is filtered as a whole where it is for the host, and piece for piece where it is handed on.
func TestHostFiltersFragments(t *testing.T) {
	rules := "pass in udp from any to any port 53 new\npass out any from any to any\nreject in any from any to any\n"
	parts, _ := modelFragment(udpPacket(otherUdp, ownUdp, string(streamBytes(0, 100))), 68)
	h := handing(t, rules, 500, 500)
	h.each(hostMakes(impl.HostUdp, 53))
	for _, part := range parts {
		h.do(comingAt(0, part), "ok =1")
	}
	h.do(hostOp(impl.HostRecv, 1), "ok from 10.0.0.2 port 5353 *100 =1")
	parts, _ = modelFragment(through(100, asItIs), 68)
	h.do(comingAt(0, parts[0]), "ok | 0 to 1002 icmp 10.0.0.1>10.0.0.2 3/13 about p17 10.0.0.2:5353>10.0.1.2:53 #0 more #0 =1")
	h.do(comingAt(0, parts[1]), "ok =1")
	h.check()
}

// A cache lets four packets wait; what there is no room for is gone, and nobody is told.
func TestHostFragmentsWait(t *testing.T) {
	data := strings.Repeat("x", 2400)
	h := newHostTest(t, plainHost(500))
	h.each(hostMakes(impl.HostUdp, 53))
	h.do(hostSends(1, otherUdp, data), "ok | 0 who 10.0.0.2 =1")
	h.do(tellsAt(0, otherUdp.addr), "ok | 0 to 1002 p17 10.0.0.1>10.0.0.2 part 960-1440 more #0 | 0 to 1002 p17 10.0.0.1>10.0.0.2 part 1440-1920 more #0"+
		" | 0 to 1002 p17 10.0.0.1>10.0.0.2 part 1920-2400 more #0 | 0 to 1002 p17 10.0.0.1>10.0.0.2 part 2400-2408 #0 =1")
	h.check()
	h = handing(t, "", 500, 500)
	for id := range int64(6) {
		p := through(12, func(p *impl.Packet) { p.Dst, p.ID = atLink(1, 3), id })
		h.do(comingAt(0, p), []string{"ok | 1 who 10.0.1.3 =0", "ok =0"}[min(id, 1)])
	}
	for id := range int64(33) {
		p := through(12, func(p *impl.Packet) { p.Dst, p.Proto, p.Payload = atLink(1, 10+id), 99, []byte("plain") })
		h.do(comingAt(0, p), fmt.Sprintf("ok | 1 who 10.0.1.%d =0", 10+id))
	}
	h.do(tellsAt(1, atLink(1, 3)), "ok =0")
	h.do(tellsAt(1, atLink(1, 10)), "ok =0")
	h.do(tellsAt(1, atLink(1, 11)), "ok | 1 to 1267 p99 10.0.0.2>10.0.1.11 plain #0 ttl 63 =0")
	h.check()
}

// What waited is released ahead of the reply; a reply goes to who has asked, a request to all.
func TestHostArps(t *testing.T) {
	h := newHostTest(t, plainHost(500, 500))
	h.each(hostMakes(impl.HostUdp, 53))
	h.do(hostSends(1, otherUdp, "a"), "ok | 0 who 10.0.0.2 =1")
	h.do(hostSends(1, otherUdp, "b"), "ok =1")
	h.do(asksAt(1, otherUdp.addr), "ok | 1 to 1002 tell 10.0.0.2 =1")
	h.do(asksAt(0, otherUdp.addr), "ok | 0 to 1002 udp 10.0.0.1:53>10.0.0.2:5353 a #0 | 0 to 1002 udp 10.0.0.1:53>10.0.0.2:5353 b #1 | 0 to 1002 tell 10.0.0.2 =1")
	h.do(hostSends(1, otherUdp, "c"), "ok | 0 to 1002 udp 10.0.0.1:53>10.0.0.2:5353 c #2 =1")
	h.do(tellsAt(0, atLink(0, 3)), "ok =1")
	h.do(hostSends(1, place{atLink(0, 3), 9}, "d"), "ok | 0 who 10.0.0.3 =1")
	h.do(tellsAt(1, atLink(0, 3)), "ok =1")
	reply := impl.Arp{Op: impl.ArpReply, SenderMac: 9, Sender: atLink(0, 3), TargetMac: 5, Target: atLink(0, 9)}
	h.do(frameAt(0, 2, impl.FrameArp, plainArp(reply)), "ok =1")
	h.do(frameAt(0, 1, impl.FrameArp, plainArp(reply)[:27]), "ok =1")
	h.do(frameAt(0, 1, impl.FrameArp, append(plainArp(reply), 0)), "ok =1")
	h.do(frameAt(0, 1, impl.FrameArp, plainArp(reply)), "ok | 0 to 9 udp 10.0.0.1:53>10.0.0.3:9 d #3 =1")
	h.do(hostPass(59999), "ok =1")
	h.do(hostSends(1, place{atLink(0, 3), 9}, "e"), "ok | 0 to 9 udp 10.0.0.1:53>10.0.0.3:9 e #4 =1")
	h.do(hostPass(1), "ok =1")
	h.do(hostSends(1, place{atLink(0, 3), 9}, "f"), "ok | 0 who 10.0.0.3 =1")
	h.check()
}

// P33: only right frames for the link or for all are taken, at a link that is there.
func TestHostTakesItsFrames(t *testing.T) {
	p := udpPacket(otherUdp, ownUdp, "a")
	b := plainPacket(p)
	cut, turned := comingAt(0, p), comingAt(0, p)
	cut.Data = cut.Data[:len(cut.Data)-1]
	turned.Data[30] ^= 4
	taken := map[string]impl.HostOp{
		"for the link": comingAt(0, p), "for all": frameAt(0, lastMac, impl.FrameIP, b), "at another link": frameAt(1, 2, impl.FrameIP, b),
		"with more behind it": frameAt(0, 1, impl.FrameIP, append(b[:len(b):len(b)], 1, 2, 3)),
	}
	gone := map[string]impl.HostOp{
		"for another link": frameAt(0, 2, impl.FrameIP, b), "for the first link": frameAt(1, 1, impl.FrameIP, b), "for somebody": frameAt(0, 77, impl.FrameIP, b),
		"nearly for all": frameAt(0, lastMac-1, impl.FrameIP, b), "of type 0": frameAt(0, 1, 0, b), "of an Arp's type": frameAt(0, 1, impl.FrameArp, b),
		"of the type behind": frameAt(0, 1, impl.FrameIP+1, b), "of the last type": frameAt(0, 1, 65535, b), "cut": cut, "turned": turned,
		"nothing": {Kind: impl.HostTake}, "a packet without a frame": {Kind: impl.HostTake, Data: b},
		"a wrong head": frameAt(0, 1, impl.FrameIP, append([]byte{0x46}, b[1:]...)), "a cut packet": frameAt(0, 1, impl.FrameIP, b[:len(b)-1]),
		"an empty payload": frameAt(0, 1, impl.FrameIP, nil),
	}
	for _, src := range []int64{atLink(0, 1), atLink(1, 1), 0, 127<<24 | 1, 224<<24 | 1, 240<<24 | 1, lastAddr} {
		gone["from "+addrText(src)] = comingAt(0, udpPacket(place{src, 5353}, ownUdp, "a"))
	}
	for _, dst := range []int64{atLink(0, 2), atLink(0, 255), atLink(1, 255), 0, 127<<24 | 1, 224<<24 | 1, lastAddr, farNet} {
		gone["to "+addrText(dst)] = comingAt(0, udpPacket(otherUdp, place{dst, 53}, "a"))
	}
	try := func(what string, op impl.HostOp, told, recv string) {
		h := newHostTest(t, plainHost(500, 500))
		h.each(hostMakes(impl.HostUdp, 53), asksAt(0, atLink(0, 2)))
		h.do(op, told)
		h.do(hostOp(impl.HostRecv, 1), recv)
		h.check()
		if t.Failed() {
			t.Fatal(what)
		}
	}
	for what, op := range taken {
		try(what, op, "ok =1", "ok from 10.0.0.2 port 5353 a =1")
	}
	for what, op := range gone {
		try(what, op, "ok =1", "wait =1")
	}
	for _, link := range append(edgeNumbers(), 2, 7, 8) {
		if link < 0 || link > 1 {
			op := comingAt(0, p)
			op.Link = link
			try(fmt.Sprint("at link ", link), op, "form =1", "wait =1")
		}
	}
}

// What is for an own address is delivered whatever its TTL is, at whatever link it comes in, and whole.
func TestHostPutsTogether(t *testing.T) {
	h := newHostTest(t, plainHost(500, 500))
	h.each(hostMakes(impl.HostUdp, 53), asksAt(0, otherUdp.addr))
	for ttl := range int64(3) {
		p := udpPacket(otherUdp, place{atLink(1, 1), 53}, "a")
		p.TTL = ttl
		h.do(comingAt(0, p), "ok =1")
		h.do(hostOp(impl.HostRecv, 1), "ok from 10.0.0.2 port 5353 a =1")
	}
	parts, _ := modelFragment(udpPacket(otherUdp, ownUdp, string(streamBytes(0, 130))), 68)
	for i, at := range []int{2, 1, 0} {
		h.do(comingAt(i%2, parts[at]), "ok =1")
		h.do(hostOp(impl.HostRecv, 1), []string{"wait =1", "wait =1", "ok from 10.0.0.2 port 5353 *130 =1"}[i])
	}
	p := impl.Packet{TTL: 5, Proto: 99, Src: otherUdp.addr, Dst: ownUdp.addr, ID: 7, Tos: 3, Options: make([]byte, 4), Payload: streamBytes(0, 100)}
	parts, _ = modelFragment(p, 68)
	parts[0].TTL = 9
	h.do(comingAt(0, parts[0]), "ok =1")
	h.do(comingAt(0, parts[2]), "ok =1")
	h.do(comingAt(1, parts[1]), "ok | 0 to 1002 icmp 10.0.1.1>10.0.0.2 3/2 about p99 10.0.0.2>10.0.0.1 #7 ttl 9 #0 =1")
	h.do(comingAt(0, parts[1]), "ok =1")
	h.do(comingAt(1, parts[2]), "ok =1")
	h.do(comingAt(0, changed(parts[0], func(p *impl.Packet) { p.DF = true })),
		"ok | 0 to 1002 icmp 10.0.0.1>10.0.0.2 3/2 about p99 10.0.0.2>10.0.0.1 #7 ttl 9 df #1 =1")
	h.check()
}

// An echo is answered from where it went to, with the same code, number and bytes.
func TestHostEchoes(t *testing.T) {
	h := newHostTest(t, plainHost(500, 500))
	h.each(asksAt(0, otherUdp.addr))
	h.do(comingAt(0, echoPacket(otherUdp.addr, ownUdp.addr, 8, 9, 65535, "hello")), "ok | 0 to 1002 icmp 10.0.0.1>10.0.0.2 reply 0/9/65535 hello #0 =0")
	p := icmpPacket(otherUdp.addr, atLink(1, 1), impl.Icmp{Type: 8, Code: 255, Rest: lastAddr})
	p.Tos, p.DF, p.TTL, p.ID = 9, true, 1, 77
	h.do(comingAt(0, p), "ok | 0 to 1002 icmp 10.0.1.1>10.0.0.2 reply 255/65535/65535 #1 =0")
	for size, told := range map[int]string{1452: "ok", 0: "ok | 0 to 1002 icmp 10.0.0.1>10.0.0.2 reply 0/0/0 #"} {
		p := echoPacket(otherUdp.addr, ownUdp.addr, 8, 0, 0, string(streamBytes(0, size)))
		if size > 0 {
			told += " | 0 to 1002 p1 10.0.0.1>10.0.0.2 part 0-480 more #2 | 0 to 1002 p1 10.0.0.1>10.0.0.2 part 480-960 more #2" +
				" | 0 to 1002 p1 10.0.0.1>10.0.0.2 part 960-1440 more #2 | 0 to 1002 p1 10.0.0.1>10.0.0.2 part 1440-1460 #2"
			h.do(comingAt(0, p), told+" =0")
		}
	}
	wrong := echoPacket(otherUdp.addr, ownUdp.addr, 8, 9, 1, "hello")
	wrong.Payload[9]++
	h.do(comingAt(0, wrong), "ok =0")
	for _, kind := range []int64{1, 4, 7, 9, 13, 255} {
		h.do(comingAt(0, echoPacket(otherUdp.addr, ownUdp.addr, kind, 9, 1, "hello")), "ok =0")
	}
	h.do(comingAt(0, changed(wrong, func(p *impl.Packet) { p.Payload = p.Payload[:7] })), "ok =0")
	h.check()
}

// What an echo's socket sends has its number; the replies with that number are its own, from wherever they come.
func TestHostPings(t *testing.T) {
	h := newHostTest(t, plainHost(500))
	h.each(asksAt(0, otherUdp.addr), hostMakes(impl.HostPing, 65535), hostMakes(impl.HostPing, 0), hostMakes(impl.HostUdp, 9))
	h.do(hostSends(1, place{otherUdp.addr, 65535}, "hello"), "ok | 0 to 1002 icmp 10.0.0.1>10.0.0.2 echo 0/65535/65535 hello #0 =3")
	h.do(hostSends(2, place{otherUdp.addr, 0}, ""), "ok | 0 to 1002 icmp 10.0.0.1>10.0.0.2 echo 0/0/0 #1 =3")
	h.do(hostSends(1, place{otherUdp.addr, 7}, ""), "ok | 0 to 1002 icmp 10.0.0.1>10.0.0.2 echo 0/65535/7 #2 =3")
	h.do(comingAt(0, echoPacket(atLink(0, 3), ownUdp.addr, 0, 65535, 65534, "x")), "ok =3")
	h.do(comingAt(0, echoPacket(otherUdp.addr, ownUdp.addr, 0, 9, 5, "nobody's")), "ok =3")
	h.do(comingAt(0, echoPacket(otherUdp.addr, ownUdp.addr, 0, 0, 5, "y")), "ok =3")
	h.do(comingAt(0, icmpPacket(otherUdp.addr, ownUdp.addr, impl.Icmp{Code: 7, Rest: 6})), "ok =3")
	h.do(hostOp(impl.HostRecv, 3), "wait =3")
	h.do(hostOp(impl.HostRecv, 1), "ok from 10.0.0.3 port 65534 x =3")
	h.do(hostOp(impl.HostRecv, 1), "wait =3")
	h.do(hostOp(impl.HostRecv, 2), "ok from 10.0.0.2 port 5 y =3")
	h.do(hostOp(impl.HostRecv, 2), "ok from 10.0.0.2 port 6 =3")
	h.do(hostOp(impl.HostDrop, 2), "ok =2")
	h.do(comingAt(0, echoPacket(otherUdp.addr, ownUdp.addr, 0, 0, 5, "y")), "ok =2")
	h.check()
}

// No more than 32 wait in a socket; the first ones stay.
func TestHostQueuesAreBounded(t *testing.T) {
	h := newHostTest(t, plainHost(500))
	h.each(hostMakes(impl.HostUdp, 53), hostMakes(impl.HostPing, 9))
	for i := range int64(40) {
		h.do(comingAt(0, udpPacket(otherAt(i), ownUdp, "d")), "ok =2")
		h.do(comingAt(0, echoPacket(otherUdp.addr, ownUdp.addr, 0, 9, i, "e")), "ok =2")
	}
	recv := func(sock, port int64, data string) {
		text := strings.Repeat(fmt.Sprint(" port ", port), int(oneIf(port != 0)))
		h.do(hostOp(impl.HostRecv, sock), "ok from 10.0.0.2"+text+" "+data+" =2")
	}
	recv(1, 0, "d")
	h.do(comingAt(0, udpPacket(otherAt(99), ownUdp, "late")), "ok =2")
	h.do(comingAt(0, udpPacket(otherAt(98), ownUdp, "later")), "ok =2")
	for i := range int64(31) {
		recv(1, i+1, "d")
	}
	recv(1, 99, "late")
	h.do(hostOp(impl.HostRecv, 1), "wait =2")
	for i := range int64(32) {
		recv(2, i, "e")
	}
	h.do(hostOp(impl.HostRecv, 2), "wait =2")
	h.check()
}

func TestHostDatagramsForNobody(t *testing.T) {
	h := newHostTest(t, plainHost(500, 500))
	h.each(asksAt(0, otherUdp.addr), hostMakes(impl.HostPing, 54), hostMakes(impl.HostListen, 54), hostMakes(impl.HostUdp, 53))
	p := udpPacket(otherUdp, place{ownUdp.addr, 54}, "a")
	p.TTL, p.ID, p.DF = 3, 500, true
	told := "ok | 0 to 1002 icmp 10.0.0.1>10.0.0.2 3/3 about p17 10.0.0.2:5353>10.0.0.1:54 #500 ttl 3 df #0 =3"
	h.do(comingAt(0, p), told)
	h.do(comingAt(1, udpPacket(otherUdp, place{ownUdp.addr, 0}, "")), "ok | 0 to 1002 icmp 10.0.1.1>10.0.0.2 3/3 about p17 10.0.0.2:5353>10.0.0.1:0 #0 #1 =3")
	p.Payload[8]++
	h.do(comingAt(0, p), "ok =3")
	p.Payload = p.Payload[:8]
	h.do(comingAt(0, p), "ok =3")
	h.do(comingAt(0, udpPacket(place{172 << 24, 9}, place{ownUdp.addr, 54}, "a")), "ok =3")
	h.do(comingAt(0, udpPacket(place{atLink(0, 255), 9}, place{ownUdp.addr, 54}, "a")), "ok | 0 who 10.0.0.255 =3")
	h.do(hostOp(impl.HostDrop, 3), "ok =2")
	h.do(comingAt(0, udpPacket(otherUdp, ownUdp, "a")), "ok | 0 to 1002 icmp 10.0.0.1>10.0.0.2 3/3 about p17 10.0.0.2:5353>10.0.0.1:53 #0 #4 =2")
	h.do(comingAt(0, udpPacket(place{otherUdp.addr, 0}, ownUdp, "")), "ok | 0 to 1002 icmp 10.0.0.1>10.0.0.2 3/3 about p17 10.0.0.2:0>10.0.0.1:53 #0 #5 =2")
	h.check()
}

func TestHostOtherProtocols(t *testing.T) {
	h := newHostTest(t, plainHost(500))
	h.each(asksAt(0, otherUdp.addr))
	number := 0
	for proto := range int64(256) {
		p := impl.Packet{TTL: 1, Proto: proto, Src: otherUdp.addr, Dst: ownUdp.addr}
		told := "ok =0"
		if proto != 1 && proto != 6 && proto != 17 {
			told = fmt.Sprintf("ok | 0 to 1002 icmp 10.0.0.1>10.0.0.2 3/2 about p%d 10.0.0.2>10.0.0.1 #0 ttl 1 with 0 #%d =0", proto, number)
			number++
		}
		h.do(comingAt(0, p), told)
	}
	h.check()
}

// A complaint about a stream counts if what it quotes is on its way.
func TestHostHearsOfStreams(t *testing.T) {
	own := place{ownWeb.addr, 49152}
	quote := func(seq int64, set func(p *impl.Packet)) impl.Packet {
		p := segmentPacket(t, own, otherWeb, fmt.Sprintf("S %d 0 0", (seq+allSeqs)%allSeqs))
		set(&p)
		return p
	}
	first := issAt(77, 0, own, otherWeb)
	plain := quote(first, asItIs)
	for i, test := range []struct {
		p    impl.Packet
		dies bool
	}{
		{complaintOf(plain, own.addr, 3, 0, 0, 8), true},
		{complaintOf(plain, own.addr, 3, 1, 0, 8), true},
		{complaintOf(plain, own.addr, 3, 3, 0, 8), true},
		{complaintOf(plain, own.addr, 3, 13, 600, 100), true},
		{complaintOf(plain, own.addr, 3, 255, 0, 8), true},
		{complaintOf(plain, own.addr, 3, 4, 68, 8), false},
		{complaintOf(plain, own.addr, 11, 0, 0, 8), false},
		{complaintOf(plain, own.addr, 11, 1, 0, 8), false},
		{complaintOf(plain, own.addr, 3, 3, 0, 7), false},
		{complaintOf(plain, atLink(1, 1), 3, 3, 0, 8), true},
		{complaintOf(quote(first+1, asItIs), own.addr, 3, 3, 0, 8), false},
		{complaintOf(quote(first-1, asItIs), own.addr, 3, 3, 0, 8), false},
		{complaintOf(quote(first+halfway, asItIs), own.addr, 3, 3, 0, 8), false},
		{complaintOf(quote(first, func(p *impl.Packet) { p.Src = atLink(1, 1) }), own.addr, 3, 3, 0, 8), false},
		{complaintOf(quote(first, func(p *impl.Packet) { p.Dst++ }), own.addr, 3, 3, 0, 8), false},
		{complaintOf(quote(first, func(p *impl.Packet) { p.Payload[1]++ }), own.addr, 3, 3, 0, 8), false},
		{complaintOf(quote(first, func(p *impl.Packet) { p.Payload[3]++ }), own.addr, 3, 3, 0, 8), false},
		{complaintOf(quote(first, func(p *impl.Packet) { p.Proto = 17 }), own.addr, 3, 3, 0, 8), false},
		{complaintOf(quote(first, func(p *impl.Packet) { p.ID, p.TTL, p.Offset, p.MF = 9, 0, 8, true }), own.addr, 3, 3, 0, 8), true},
	} {
		h := newHostTest(t, plainHost(500, 500))
		h.each(asksAt(0, otherWeb.addr), hostMakes(impl.HostUdp, 49153))
		h.do(hostConnects(otherWeb), "-")
		h.do(blocking(hostReads(2, 1)), "wait waits =2/1")
		h.do(comingAt(i%2, test.p), map[bool]string{true: "ok ! 3 refused =2", false: "ok =2/1"}[test.dies])
		h.do(hostOp(impl.HostShut, 2), map[bool]string{true: "state =2", false: "ok ! 3 closed =2"}[test.dies])
		h.do(comingAt(i%2, test.p), "ok =2")
		h.check()
	}
}

// Behind the opening nothing but what is too big counts, and only while the quoted place is on its way.
func TestHostHearsOfTooBig(t *testing.T) {
	for rest, size := range map[int64]int{
		0: 0, 67: 0, 68: 64, 104: 64, 105: 65, 575: 535, 576: 0, 577: 0, 65535: 0, 65536: 0, 65536 + 68: 0, lastAddr: 0,
	} {
		for seq, onItsWay := range map[int64]bool{-1: false, 0: false, 1: true, 2: true, 536: true, 537: false, halfway: false} {
			for code := int64(3); code <= 4; code++ {
				h := newHostTest(t, plainHost(1500))
				h.inHostState(impl.TcpEstablished)
				h.do(hostWrites(2, streamBytes(0, 536)), "ok took 536"+streamText(5000, "PA 1 71 16384 *536 #1 df =2"))
				about := segmentPacket(t, ownWeb, otherWeb, fmt.Sprintf("A %d 0 0", (h.texts.first[[2]place{ownWeb, otherWeb}]+seq+allSeqs)%allSeqs))
				told := "ok"
				for at := 0; size > 0 && onItsWay && code == 4 && at < 536; at += size {
					to := min(at+size, 536)
					flags := strings.Repeat("P", int(oneIf(to == 536))) + "A"
					told += streamText(5000, fmt.Sprintf("%s %d 71 16384 *%d #%d df", flags, at+1, to-at, 2+at/size))
				}
				h.do(comingAt(0, complaintOf(about, ownWeb.addr, 3, code, rest, 8)), told+" =2")
				h.do(hostReads(2, 1), "wait =2")
				h.check()
			}
		}
	}
}

func flagsText(flags int64) string {
	text := ""
	for i, letter := range "FSRPAU" {
		if flags>>i&1 == 1 {
			text += string(letter)
		}
	}
	ordered := ""
	for _, letter := range "SFRPAU" {
		if strings.ContainsRune(text, letter) {
			ordered += string(letter)
		}
	}
	if ordered == "" {
		return "-"
	}
	return ordered
}

// refusalText is what is told of the answer of refusal to a segment with these flags, of Seq 70, Ack 500 and 3 bytes.
func refusalText(flags int64) string {
	switch {
	case flags&segRst != 0:
		return ""
	case flags&segAck != 0:
		return "R 500 0 0"
	}
	return fmt.Sprintf("RA 0 %d 0", 73+flags&segSyn/segSyn+flags&segFin/segFin)
}

// Each choice of flags at a port that nobody has, at one that is listened to, at that of a stream that is gone, and closed.
func TestHostSegmentsForNobody(t *testing.T) {
	for flags := range int64(64) {
		op := func(to place) impl.HostOp {
			return comingAt(0, segmentPacket(t, otherWeb, to, flagsText(flags)+" 70 500 1000", 1, 2, 3))
		}
		answer := func(to place, id, socks int64) string {
			text := refusalText(flags)
			if text != "" {
				text = fmt.Sprintf(" | 0 to 1002 tcp 10.0.0.1:%d>10.0.0.2:5000 %s #%d df", to.port, text, id)
			}
			return fmt.Sprint("ok", text, " =", socks)
		}
		h := newHostTest(t, plainHost(500))
		h.each(asksAt(0, otherWeb.addr), hostMakes(impl.HostUdp, 80), hostMakes(impl.HostPing, 80))
		h.do(op(ownWeb), answer(ownWeb, 0, 2))
		h.do(op(place{ownWeb.addr, 0}), answer(place{ownWeb.addr, 0}, oneIf(flags&segRst == 0), 2))
		h.check()

		h = newHostTest(t, plainHost(500))
		h.each(asksAt(0, otherWeb.addr), hostMakes(impl.HostListen, 80))
		told := "ok =1"
		switch {
		case flags&segRst == 0 && flags&segAck != 0:
			told = answer(ownWeb, 0, 1)
		case flags&(segRst|segSyn) == segSyn:
			h.stream(0, ownWeb, otherWeb)
			told = "ok" + streamText(5000, "SA 0 71 16384 mss 460 #0 df =2")
		}
		h.do(op(ownWeb), told)
		h.check()

		own := place{ownWeb.addr, 49152}
		for _, kind := range []int64{impl.HostAbort, impl.HostDrop} {
			h := newHostTest(t, plainHost(500))
			h.each(asksAt(0, otherWeb.addr), hostConnects(otherWeb), hostOp(kind, 1))
			h.do(op(own), answer(own, 1, oneIf(kind == impl.HostAbort)))
			h.check()
		}
	}
}

// A segment is for the stream with just its addresses and ports.
func TestHostSegmentsForStreams(t *testing.T) {
	own, second := place{ownWeb.addr, 49152}, place{atLink(1, 1), 49152}
	for what, c := range map[string]struct {
		from, to place
		reaches  bool
	}{
		"all of them":     {otherWeb, own, true},
		"another port":    {otherWeb, place{own.addr, 49153}, false},
		"another sender":  {place{atLink(0, 3), otherWeb.port}, own, false},
		"another's port":  {otherAt(5001), own, false},
		"another address": {otherWeb, second, false},
	} {
		h := newHostTest(t, plainHost(500, 500))
		h.stream(0, own, otherWeb)
		h.each(asksAt(0, otherWeb.addr), asksAt(0, atLink(0, 3)), hostConnects(otherWeb))
		syn := segmentPacket(t, c.from, c.to, fmt.Sprintf("SA 70 %d 1000", (h.texts.first[[2]place{own, otherWeb}]+1)%allSeqs))
		h.do(comingAt(0, syn), map[bool]string{true: "ok | 0 to 1002 tcp 10.0.0.1:49152>10.0.0.2:5000 A 1 71 16384 #1 df =1", false: "-"}[c.reaches])
		h.do(hostWrites(1, []byte("x")), map[bool]string{
			true:  "ok took 1 | 0 to 1002 tcp 10.0.0.1:49152>10.0.0.2:5000 PA 1 71 16384 x #2 df =1",
			false: "ok took 1 =1",
		}[c.reaches])
		h.check()
		if t.Failed() {
			t.Fatal(what)
		}
	}
}

// Of a listening socket no more than 8 streams that are not closed and have not been accepted are there.
func TestHostBacklog(t *testing.T) {
	h := newHostTest(t, plainHost(500))
	h.each(hostMakes(impl.HostListen, 80), hostMakes(impl.HostListen, 81), asksAt(0, otherWeb.addr))
	syn := func(port int64) impl.HostOp {
		h.stream(h.m.now, ownWeb, otherAt(port))
		return h.segment(ownWeb, otherAt(port), "S", 70, 0, 1000)
	}
	enters := func(port int64, socks int) {
		h.do(syn(port), "ok"+streamText(port, fmt.Sprintf("SA 0 71 16384 mss 460 #%d df =%d", h.m.ids, socks)))
	}
	for i := range int64(8) {
		enters(5000+i, int(3+i))
	}
	h.do(syn(5008), "ok =10")
	h.stream(0, place{ownWeb.addr, 81}, otherWeb)
	h.do(h.segment(place{ownWeb.addr, 81}, otherWeb, "S", 70, 0, 1000), "ok | 0 to 1002 tcp 10.0.0.1:81>10.0.0.2:5000 SA 0 71 16384 mss 460 #8 df =11")
	h.do(h.segment(ownWeb, otherAt(5003), "A", 71, 1, 1000), "ok =11")
	h.do(syn(5008), "ok =11")
	h.do(hostOp(impl.HostAccept, 1), "ok sock 6 from 10.0.0.2 port 5003 =11")
	enters(5008, 12)
	h.do(syn(5009), "ok =12")
	h.do(h.segment(ownWeb, otherAt(5004), "RA", 71, 1, 1000), "ok =12")
	enters(5009, 13)
	h.do(syn(5010), "ok =13")
	h.do(hostOp(impl.HostAbort, 8), "ok"+streamText(5005, fmt.Sprint("RA 1 71 0 #", h.m.ids, " df =13")))
	enters(5010, 14)
	h.do(syn(5011), "ok =14")
	h.do(hostOp(impl.HostDrop, 9), "ok"+streamText(5006, fmt.Sprint("RA 1 71 0 #", h.m.ids, " df =13")))
	enters(5011, 14)
	h.do(syn(5012), "ok =14")
	h.do(hostOp(impl.HostDrop, 1), "-")
	h.do(hostMakes(impl.HostListen, 80), "ok sock 16 port 80 =4")
	enters(5012, 5)
	h.check()
}

// Who cannot be reached has no stream; an answer of refusal goes out to where a route leads, or nowhere.
func TestHostSegmentsFromAfar(t *testing.T) {
	c := plainHost(500, 300)
	c.Routes = []impl.Route{{Prefix: impl.Prefix{Addr: farNet, Bits: 16}, Via: atLink(1, 9), Link: 1}}
	for _, test := range []struct {
		from          int64
		listen, reset string
	}{
		{atLink(0, 255), "ok =1", "ok | 0 who 10.0.0.255 =0"},
		{atLink(1, 255), "ok =1", "ok | 1 who 10.0.1.255 =0"},
		{172<<24 | 5, "ok =1", "ok =0"},
		{farNet | 5, "ok | 1 to 1265 tcp 10.0.0.1:80>192.168.0.5:5000 SA 0 71 16384 mss 260 #0 df =2",
			"ok | 1 to 1265 tcp 10.0.0.1:80>192.168.0.5:5000 RA 0 71 0 #0 df =0"},
	} {
		from := place{test.from, 5000}
		syn := comingAt(0, segmentPacket(t, from, ownWeb, "S 70 0 1000"))
		h := newHostTest(t, c)
		h.stream(0, ownWeb, from)
		h.each(asksAt(1, atLink(1, 9)), hostMakes(impl.HostListen, 80))
		h.do(syn, test.listen)
		h.check()
		h = newHostTest(t, c)
		h.each(asksAt(1, atLink(1, 9)))
		h.do(syn, test.reset)
		h.check()
	}
}

func TestHostIllSegments(t *testing.T) {
	for _, set := range []func(b []byte) []byte{
		func(b []byte) []byte { return b[:19] },
		func(b []byte) []byte { b[16]++; return b },
		func(b []byte) []byte { return nil },
		func(b []byte) []byte { return append(b, 1) },
		func(b []byte) []byte { b[12] = 4 << 4; return b },
	} {
		p := segmentPacket(t, otherWeb, ownWeb, "S 70 0 1000")
		p.Payload = set(p.Payload)
		h := newHostTest(t, plainHost(500))
		h.each(asksAt(0, otherWeb.addr), hostMakes(impl.HostListen, 80))
		h.do(comingAt(0, p), "ok =1")
		p.Dst = atLink(0, 1)
		h.do(hostOp(impl.HostDrop, 1), "ok =0")
		h.do(comingAt(0, p), "ok =0")
		h.check()
	}
}

// A stream that has died and one between the same ends that came in later are two sockets.
func TestHostStreamsBetweenTheSameEnds(t *testing.T) {
	h := newHostTest(t, plainHost(500))
	h.each(hostMakes(impl.HostListen, 80))
	h.opens(ownWeb, otherWeb)
	h.do(h.segment(ownWeb, otherWeb, "PA", 71, 1, 1000, 'a'), "ok =2")
	h.do(h.segment(ownWeb, otherWeb, "RA", 72, 1, 1000), "ok =2")
	h.each(hostPass(1000))
	h.opens(ownWeb, otherWeb)
	h.do(hostOp(impl.HostAccept, 1), "ok sock 3 from 10.0.0.2 port 5000 =3")
	h.do(hostReads(2, 5), "ok a =3")
	h.do(hostReads(2, 5), "reset =3")
	h.do(hostOp(impl.HostDrop, 2), "ok =2")
	h.do(h.segment(ownWeb, otherWeb, "PA", 71, 1, 1000, 'b'), "ok =2")
	h.do(hostReads(3, 5), "ok b =2")
	h.check()
}

func TestHostAsksTheTime(t *testing.T) {
	for _, now := range []int64{0, 1, 1000, lastTime - 1, lastTime} {
		h := newHostTest(t, plainHost(500))
		h.do(hostPass(now), "ok =0")
		for _, wait := range aboutEnds(lastTime, lastTime-now) {
			if wait < 0 || wait > lastTime-now {
				h.do(hostPass(wait), "form =0")
			}
		}
		h.do(hostPass(0), "ok =0")
		h.do(hostPass(lastTime-now), "ok =0")
		h.do(hostPass(1), "form =0")
		h.do(hostPass(0), "ok =0")
		h.check()
	}
	h := newHostTest(t, plainHost(500))
	h.each(fourKinds()...)
	h.each(hostSends(1, otherAt(9), "x"), blocking(hostReads(4, 1)))
	h.do(hostPass(lastTime), "-")
	h.do(hostReads(4, 1), "timeout =4")
	h.check()
}

// A cache asks again each second, and drops what waits behind the third time; of what was handed on that is told.
func TestHostDropsWhatNobodyAnswers(t *testing.T) {
	for _, steps := range [][]int64{{999, 1, 999, 1, 999, 1}, {1000, 1000, 1000}, {3000}, {2999, 1}, {500, 2500}} {
		h := handing(t, "", 500, 500)
		h.each(hostMakes(impl.HostUdp, 53))
		to := atLink(1, 3)
		h.do(comingAt(0, through(12, func(p *impl.Packet) { p.Dst, p.ID = to, 8 })), "ok | 1 who 10.0.1.3 =1")
		h.do(hostSends(1, place{to, 9}, "own"), "ok =1")
		h.do(comingAt(0, through(12, func(p *impl.Packet) { p.Dst, p.ID, p.Proto, p.Payload = to, 9, 1, []byte{3, 1} })), "ok =1")
		h.do(comingAt(0, through(12, func(p *impl.Packet) { p.Dst, p.ID, p.Src = to, 10, atLink(0, 4) })), "ok =1")
		now := int64(0)
		for _, wait := range steps {
			told := "ok"
			if now < 1000 && now+wait >= 1000 {
				told += " | 1 who 10.0.1.3"
			}
			if now < 2000 && now+wait >= 2000 {
				told += " | 1 who 10.0.1.3"
			}
			now += wait
			if now == 3000 {
				told += " | 0 to 1002 icmp 10.0.0.1>10.0.0.2 3/1 about p17 10.0.0.2:5353>10.0.1.3:53 #8 ttl 63 #1 | 0 who 10.0.0.4"
			}
			h.do(hostPass(wait), told+" =1")
		}
		h.do(tellsAt(0, atLink(0, 4)), "ok | 0 to 1004 icmp 10.0.0.1>10.0.0.4 3/1 about p17 10.0.0.4:5353>10.0.1.3:53 #10 ttl 63 #2 =1")
		h.do(tellsAt(1, to), "ok =1")
		h.check()
	}
}

// Of the fragments of a packet that was handed on the first one is told of.
func TestHostDropsFragments(t *testing.T) {
	h := handing(t, "", 500, 128)
	h.do(comingAt(0, through(300, func(p *impl.Packet) { p.Dst, p.ID = atLink(1, 3), 8 })), "ok | 1 who 10.0.1.3 =0")
	h.do(hostPass(3000), "ok | 1 who 10.0.1.3 | 1 who 10.0.1.3"+
		" | 0 to 1002 icmp 10.0.0.1>10.0.0.2 3/1 about p17 10.0.0.2:5353>10.0.1.3:53 #8 ttl 63 more #0 =0")
	h.check()
}

// A datagram of which not all came is told of from its own address, if its first packet is there.
func TestHostEndsDatagrams(t *testing.T) {
	whole := impl.Packet{TTL: 7, Proto: 99, Src: otherUdp.addr, Dst: atLink(1, 1), ID: 60, Payload: streamBytes(0, 100)}
	parts, _ := modelFragment(whole, 68)
	other := func(id int64, i int) impl.HostOp {
		return comingAt(0, changed(parts[i], func(p *impl.Packet) { p.ID = id }))
	}
	h := newHostTest(t, plainHost(500, 500))
	h.each(asksAt(0, otherUdp.addr))
	h.do(hostPass(50), "ok =0")
	h.do(other(61, 1), "ok =0")
	h.do(other(60, 1), "ok =0")
	h.do(other(62, 0), "ok =0")
	h.do(other(63, 0), "ok =0")
	h.do(other(60, 0), "ok =0")
	h.do(hostPass(5), "ok =0")
	h.do(other(64, 0), "ok =0")
	h.do(other(62, 1), "ok =0")
	h.do(comingAt(0, changed(parts[1], func(p *impl.Packet) { p.ID, p.Offset = 63, 8 })), "ok =0")
	message := icmpPacket(otherUdp.addr, ownUdp.addr, impl.Icmp{Type: 3, Body: make([]byte, 40)})
	message.Payload, message.MF = message.Payload[:48], true
	h.do(comingAt(0, message), "ok =0")
	h.do(hostPass(29994), "ok =0")
	h.do(hostPass(1), "ok | 0 to 1002 icmp 10.0.1.1>10.0.0.2 11/1 about p99 10.0.0.2>10.0.1.1 #60 ttl 7 more #0"+
		" | 0 to 1002 icmp 10.0.1.1>10.0.0.2 11/1 about p99 10.0.0.2>10.0.1.1 #62 ttl 7 more #1 =0")
	h.do(hostPass(4), "ok =0")
	h.do(other(60, 1), "ok =0")
	h.do(hostPass(1), "ok | 0 to 1002 icmp 10.0.1.1>10.0.0.2 11/1 about p99 10.0.0.2>10.0.1.1 #64 ttl 7 more #2 =0")
	h.do(other(60, 0), "ok =0")
	h.do(other(60, 2), "ok | 0 to 1002 icmp 10.0.0.1>10.0.0.2 3/2 about p99 10.0.0.2>10.0.1.1 #60 ttl 7 #3 =0")
	h.check()
}

// Of those that are pushed out by a seventeenth one nobody is told.
func TestHostPushesDatagramsOut(t *testing.T) {
	parts, _ := modelFragment(udpPacket(otherUdp, ownUdp, string(streamBytes(0, 100))), 68)
	h := newHostTest(t, plainHost(500))
	h.each(asksAt(0, otherUdp.addr), hostMakes(impl.HostUdp, 53))
	part := func(id int64, i int) impl.HostOp {
		return comingAt(0, changed(parts[i], func(p *impl.Packet) { p.ID = id }))
	}
	for id := range int64(17) {
		h.do(part(id, 0), "ok =1")
	}
	for id := range int64(2) {
		h.do(part(1-id, 1), "ok =1")
		h.do(part(1-id, 2), "ok =1")
		h.do(hostOp(impl.HostRecv, 1), []string{"ok from 10.0.0.2 port 5353 *100 =1", "wait =1"}[id])
	}
	h.check()
}

// What falls due at one time happens in this order: the caches by their links, the putting together, the streams by their
// numbers.
func TestHostDueAtOneTime(t *testing.T) {
	h := handing(t, "", 500, 500)
	h.each(hostMakes(impl.HostUdp, 53))
	part := through(104, func(p *impl.Packet) { p.Dst, p.MF, p.ID = ownUdp.addr, true, 1 })
	h.do(hostPass(1000), "ok =1")
	h.do(comingAt(0, part), "ok =1")
	h.do(hostPass(27000), "ok =1")
	h.do(comingAt(0, through(12, func(p *impl.Packet) { p.Dst, p.ID = atLink(1, 3), 2 })), "ok | 1 who 10.0.1.3 =1")
	h.do(comingAt(0, through(12, func(p *impl.Packet) { p.Dst, p.ID = atLink(0, 3), 3 })), "ok | 0 who 10.0.0.3 =1")
	h.do(hostPass(2000), "ok | 0 who 10.0.0.3 | 1 who 10.0.1.3 | 0 who 10.0.0.3 | 1 who 10.0.1.3 =1")
	for i, to := range []int64{atLink(1, 2), atLink(0, 2)} {
		h.stream(30000, place{atLink(1-i, 1), int64(49152 + i)}, place{to, 80})
		h.do(hostConnects(place{to, 80}), "-")
	}
	h.do(hostSends(1, place{atLink(1, 4), 9}, "x"), "ok | 1 who 10.0.1.4 =3")
	h.do(blocking(hostReads(2, 1)), "wait waits =3/1")
	h.do(hostPass(999), "ok =3/1")
	h.do(hostPass(1), "ok"+
		" | 0 to 1002 icmp 10.0.0.1>10.0.0.2 3/1 about p17 10.0.0.2:5353>10.0.0.3:53 #3 ttl 63 #3"+
		" | 1 who 10.0.1.4"+
		" | 0 to 1002 icmp 10.0.0.1>10.0.0.2 3/1 about p17 10.0.0.2:5353>10.0.1.3:53 #2 ttl 63 #4"+
		" | 0 to 1002 icmp 10.0.0.1>10.0.0.2 11/1 about p17 10.0.0.2:5353>10.0.0.1:53 #1 more #5"+
		" | 1 to 1258 tcp 10.0.1.1:49152>10.0.1.2:80 S 0 0 16384 mss 460 scale 0 sackok #6 df"+
		" | 0 to 1002 tcp 10.0.0.1:49153>10.0.0.2:80 S 0 0 16384 mss 460 scale 0 sackok #7 df =3/1")
	h.check()
}

// Those that wait are tried behind each step of time, and so end in the order of the steps, even of one time.
func TestHostWaitsBetweenSteps(t *testing.T) {
	for _, first := range []int64{0, 1} {
		h := newHostTest(t, plainHost(500))
		h.each(asksAt(0, otherWeb.addr), hostConnects(otherAt(81)), hostPass(first), hostConnects(otherAt(82)))
		h.do(blocking(hostReads(2, 1)), "wait waits =2/1")
		h.do(blocking(hostReads(1, 1)), "wait waits =2/2")
		h.do(hostPass(1000000), "-")
		h.do(hostReads(1, 1), "timeout =2")
		outs := h.check()
		var tickets []int64
		for _, e := range outs[6].Events {
			if e.Code != impl.ErrTimeout {
				t.Errorf("event %+v", e)
			}
			tickets = append(tickets, e.Ticket)
		}
		if fmt.Sprint(tickets) != "[5 4]" {
			t.Errorf("the tickets %v ended", tickets)
		}
	}
}

// A read that waits has all that has become unread by the piece that lacked.
func TestHostReadsWhatComesLate(t *testing.T) {
	h := newHostTest(t, plainHost(500))
	h.inHostState(impl.TcpEstablished)
	h.do(blocking(hostReads(2, 100)), "wait waits =2/1")
	h.do(hostPass(100), "ok =2/1")
	h.do(h.segment(ownWeb, otherWeb, "PA", 72, 1, 1000, streamBytes(1, 2)...), "ok"+streamText(5000, "A 1 71 16384 #1 df =2/1"))
	h.do(h.segment(ownWeb, otherWeb, "PA", 71, 1, 1000, streamBytes(0, 1)...), "ok"+streamText(5000, "A 1 74 16381 #2 df")+" ! 4 ok *3 =2")
	h.do(blocking(hostReads(2, 100)), "wait waits =2/1")
	h.do(h.segment(ownWeb, otherWeb, "FA", 74, 1, 1000), "ok"+streamText(5000, "A 1 75 16380 #3 df")+" ! 8 closed =2")
	h.check()
}

// P51: numbers as far out as an int64 may be, in each place of each operation.
func TestHostWildNumbers(t *testing.T) {
	sets := []func(op *impl.HostOp, n int64){
		func(op *impl.HostOp, n int64) { op.Kind = n },
		func(op *impl.HostOp, n int64) { op.Link = n },
		func(op *impl.HostOp, n int64) { op.Sock = n },
		func(op *impl.HostOp, n int64) { op.Addr = n },
		func(op *impl.HostOp, n int64) { op.Port = n },
		func(op *impl.HostOp, n int64) { op.N = n },
		func(op *impl.HostOp, n int64) { op.Wait = n },
	}
	for i, set := range sets {
		for kind := int64(impl.HostTake); kind <= impl.HostDrop; kind++ {
			for sock := int64(1); sock <= 4; sock++ {
				h := newHostTest(t, plainHost(500))
				h.each(fourKinds()...)
				for _, n := range edgeNumbers() {
					op := impl.HostOp{Kind: kind, Sock: sock, Addr: atLink(0, 2), Port: 7, N: 5, Wait: 1, Block: n&1 == 0, Data: []byte("x")}
					set(&op, n)
					if i != 0 || n < 1 || n > 14 {
						h.each(op)
					}
				}
				h.check()
			}
		}
	}
}
