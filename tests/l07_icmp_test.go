package tests

import (
	"bytes"
	"encoding/binary"
	"math/rand"
	"testing"

	"loop.example/g00003/impl"
)

const (
	shortestIcmp = 8
	mostBody     = 65000
	longestIcmp  = shortestIcmp + mostBody
	// quoted is how many bytes of a payload a complaint quotes.
	quoted = 8
	// complainer is the address that complaints come from here.
	complainer = ownAddr + 100
)

// resumIcmp writes the right sum into a message.
func resumIcmp(b []byte) []byte {
	binary.BigEndian.PutUint16(b[2:], 0)
	binary.BigEndian.PutUint16(b[2:], uint16(plainChecksum(b)))
	return b
}

// plainIcmp is a valid message's bytes, written apart from the program.
func plainIcmp(m impl.Icmp) []byte {
	b := []byte{byte(m.Type), byte(m.Code), 0, 0}
	b = binary.BigEndian.AppendUint32(b, uint32(m.Rest))
	return resumIcmp(append(b, m.Body...))
}

// modelDecodeIcmp tells the document's errors one behind the other.
func modelDecodeIcmp(b []byte) (impl.Icmp, int64) {
	switch {
	case len(b) < shortestIcmp:
		return impl.Icmp{}, impl.ErrShort
	case len(b) > longestIcmp:
		return impl.Icmp{}, impl.ErrSize
	case plainChecksum(b) != 0:
		return impl.Icmp{}, impl.ErrSum
	}
	rest := int64(binary.BigEndian.Uint32(b[4:]))
	return impl.Icmp{Type: int64(b[0]), Code: int64(b[1]), Rest: rest, Body: bytes.Clone(b[8:])}, impl.OK
}

// hostAddr asks for the numbers themselves: neither 0, nor 127 or 224 and above in the first place.
func hostAddr(addr int64) bool {
	return addr > 0 && addr < 224<<24 && addr>>24 != 127
}

func modelMayComplain(p impl.Packet) bool {
	if _, code := impl.EncodeIP(p); code != impl.OK || p.Offset != 0 || !hostAddr(p.Src) || !hostAddr(p.Dst) {
		return false
	}
	return p.Proto != 1 || len(p.Payload) > 0 && (p.Payload[0] == 0 || p.Payload[0] == 8)
}

// modelComplain cuts the quote out of the packet's own bytes.
func modelComplain(p impl.Packet, from, kind, code, rest int64) (impl.Packet, int64) {
	if !modelMayComplain(p) || from < 0 || from > lastAddr || kind != 3 && kind != 11 ||
		code < 0 || code > 255 || rest < 0 || rest > lastAddr {
		return impl.Packet{}, impl.ErrForm
	}
	b := plainPacket(p)
	body := b[:min(len(b), shortestHead+len(p.Options)+quoted)]
	payload := plainIcmp(impl.Icmp{Type: kind, Code: code, Rest: rest, Body: body})
	return impl.Packet{TTL: 64, Proto: 1, Src: from, Dst: p.Src, Payload: payload}, impl.OK
}

// modelReadQuote asks of the head what modelDecodeIP does, up to its sum, and for what stands behind it.
func modelReadQuote(body []byte) (impl.Quote, int64) {
	if len(body) < shortestHead {
		return impl.Quote{}, impl.ErrShort
	}
	if body[0]>>4 != 4 {
		return impl.Quote{}, impl.ErrVersion
	}
	head := int(body[0]&15) * 4
	if head < shortestHead || head > len(body) {
		return impl.Quote{}, impl.ErrLength
	}
	if plainChecksum(body[:head]) != 0 {
		return impl.Quote{}, impl.ErrSum
	}
	behind := body[head:]
	if len(behind) < quoted {
		return impl.Quote{}, impl.ErrShort
	}
	number := func(b []byte) int64 { return int64(binary.BigEndian.Uint16(b)) }
	wide := func(b []byte) int64 { return int64(binary.BigEndian.Uint32(b)) }
	return impl.Quote{
		Proto: int64(body[9]), Src: wide(body[12:]), Dst: wide(body[16:]), ID: number(body[4:]),
		SrcPort: number(behind), DstPort: number(behind[2:]), Seq: wide(behind[4:]),
	}, impl.OK
}

func sameIcmp(a, b impl.Icmp) bool {
	return a.Type == b.Type && a.Code == b.Code && a.Rest == b.Rest && bytes.Equal(a.Body, b.Body)
}

func checkEncodeIcmp(t *testing.T, m impl.Icmp, want int64) {
	t.Helper()
	b, code := impl.EncodeIcmp(m)
	if code != want || want != impl.OK && len(b) != 0 || want == impl.OK && !bytes.Equal(b, plainIcmp(m)) {
		t.Errorf("EncodeIcmp(%s): %d bytes, %.60x, %d, not %d", shortly(m), len(b), b, code, want)
	}
}

// checkDecodeIcmp asks for the zero message with every code that refuses, and for the model's message else.
func checkDecodeIcmp(t *testing.T, b []byte, want int64) {
	t.Helper()
	m, code := impl.DecodeIcmp(b)
	model, modelCode := modelDecodeIcmp(b)
	if code != want || code != modelCode || !sameIcmp(m, model) {
		t.Errorf("DecodeIcmp of %d bytes %.60x: %s, %d, not %s, %d", len(b), b, shortly(m), code, shortly(model), want)
	}
}

// codeFor is what a function answers that asks for nothing but validity.
func codeFor(valid bool) int64 {
	if valid {
		return impl.OK
	}
	return impl.ErrForm
}

func checkMayComplain(t *testing.T, p impl.Packet, want bool) {
	t.Helper()
	if got := impl.MayComplain(p); got != want || got != modelMayComplain(p) {
		t.Errorf("MayComplain(%s): %v, not %v", shortly(p), got, want)
	}
}

func checkComplain(t *testing.T, p impl.Packet, from, kind, code, rest, want int64) impl.Packet {
	t.Helper()
	got, gotCode := impl.Complain(p, from, kind, code, rest)
	model, modelCode := modelComplain(p, from, kind, code, rest)
	if gotCode != want || gotCode != modelCode || !samePacket(got, model) {
		t.Errorf("Complain(%s, %d, %d, %d, %d): %s, %d, not %s, %d",
			shortly(p), from, kind, code, rest, shortly(got), gotCode, shortly(model), want)
	}
	return got
}

func checkReadQuote(t *testing.T, body []byte, want int64) {
	t.Helper()
	q, code := impl.ReadQuote(body)
	model, modelCode := modelReadQuote(body)
	if code != want || code != modelCode || q != model {
		t.Errorf("ReadQuote of %d bytes %.70x: %+v, %d, not %+v, %d", len(body), body, q, code, model, want)
	}
}

// someIcmps are valid: each type, each number at both ends of its range, bodies of even and odd lengths up to the greatest.
func someIcmps() []impl.Icmp {
	chance := newChance()
	list := []impl.Icmp{
		{}, {Body: []byte{}}, {Type: 255, Code: 255, Rest: lastAddr, Body: bytes.Repeat([]byte{255}, mostBody)},
		{Body: make([]byte, mostBody)}, {Type: 8, Body: randomBytes(chance, mostBody-1)},
	}
	for n := range int64(256) {
		list = append(list,
			impl.Icmp{Type: n}, impl.Icmp{Code: n},
			impl.Icmp{Type: n, Code: chance.Int63n(256), Rest: chance.Int63n(1 << 32), Body: randomBytes(chance, chance.Intn(50))})
	}
	for _, n := range []int64{0, 1, 255, 256, 65535, 65536, 1 << 24, 1 << 31, lastAddr - 1, lastAddr} {
		list = append(list, impl.Icmp{Rest: n})
	}
	for _, n := range []int{0, 1, 2, 3, 27, 28, 56, 57, 1400, 1401} {
		for _, kind := range []int64{impl.IcmpEchoReply, impl.IcmpUnreachable, impl.IcmpEcho, impl.IcmpExceeded, 77} {
			list = append(list, impl.Icmp{Type: kind, Code: 4, Rest: 0x01020304, Body: randomBytes(chance, n)})
		}
	}
	return list
}

func TestIcmpBytes(t *testing.T) {
	m := impl.Icmp{Type: impl.IcmpExceeded, Code: impl.CodeReasm, Rest: 0x02030405, Body: []byte{6, 7, 8}}
	want := []byte{11, 1, 0xE0, 0xEF, 2, 3, 4, 5, 6, 7, 8}
	if b, code := impl.EncodeIcmp(m); !bytes.Equal(b, want) || code != impl.OK {
		t.Errorf("EncodeIcmp(%v): %x, %d, not %x", m, b, code, want)
	}
	if got, code := impl.DecodeIcmp(want); !sameIcmp(got, m) || code != impl.OK {
		t.Errorf("DecodeIcmp(%x): %v, %d, not %v", want, got, code, m)
	}
	for _, m := range someIcmps() {
		checkEncodeIcmp(t, m, impl.OK)
	}
}

// P6: valid Icmps come back from their bytes.
func TestIcmpsComeBack(t *testing.T) {
	for _, m := range someIcmps() {
		b, code := impl.EncodeIcmp(m)
		if code != impl.OK || impl.Checksum(b) != 0 {
			t.Errorf("EncodeIcmp(%s): %.60x, %d", shortly(m), b, code)
		}
		for _, b := range [][]byte{b, plainIcmp(m)} {
			if got, code := impl.DecodeIcmp(b); !sameIcmp(got, m) || code != impl.OK {
				t.Errorf("DecodeIcmp(%.60x): %s, %d, not %s", b, shortly(got), code, shortly(m))
			}
		}
	}
}

func TestEncodeIcmpAsksItsNumbers(t *testing.T) {
	for _, n := range append(edgeNumbers(), 1, 3, 8, 11, 254) {
		isByte, isRest := n >= 0 && n <= 255, n >= 0 && n <= lastAddr
		for _, c := range []struct {
			m     impl.Icmp
			valid bool
		}{
			{impl.Icmp{Type: n}, isByte},
			{impl.Icmp{Type: n, Code: 255, Rest: lastAddr}, isByte},
			{impl.Icmp{Code: n}, isByte},
			{impl.Icmp{Type: 255, Code: n, Rest: lastAddr}, isByte},
			{impl.Icmp{Rest: n}, isRest},
			{impl.Icmp{Type: 255, Code: 255, Rest: n}, isRest},
			{impl.Icmp{Type: n, Code: n, Rest: n}, isByte},
		} {
			for _, size := range []int{0, 5} {
				c.m.Body = make([]byte, size)
				checkEncodeIcmp(t, c.m, codeFor(c.valid))
			}
		}
	}
}

// An ill number is told ahead of too long a body.
func TestEncodeIcmpBoundsTheBody(t *testing.T) {
	room := make([]byte, 1<<20)
	for _, n := range []int{0, 1, mostBody - 1, mostBody, mostBody + 1, mostBody + 2, longestIcmp, longestIcmp + 1, 65535, 65536, 1 << 20} {
		want := int64(impl.OK)
		if n > mostBody {
			want = impl.ErrSize
		}
		for _, kind := range []int64{0, 3, 8, 11, 5, 255} {
			checkEncodeIcmp(t, impl.Icmp{Type: kind, Body: room[:n]}, want)
		}
		for _, ill := range []impl.Icmp{{Type: -1}, {Type: 256}, {Code: -1}, {Code: 256}, {Rest: -1}, {Rest: lastAddr + 1}} {
			ill.Body = room[:n]
			checkEncodeIcmp(t, ill, impl.ErrForm)
		}
	}
}

// Too few and too many bytes are told ahead of a wrong sum.
func TestDecodeIcmpBoundsItsBytes(t *testing.T) {
	room := bytes.Repeat([]byte{255}, 1<<17)
	for _, n := range []int{0, 1, 2, 3, 4, 5, 6, 7, 8, 9, 10, 11, longestIcmp - 1, longestIcmp, longestIcmp + 1, longestIcmp + 2, 65535, 65536, 1 << 17} {
		right, wrong := int64(impl.OK), int64(impl.ErrSum)
		if n < shortestIcmp {
			right, wrong = impl.ErrShort, impl.ErrShort
		} else if n > longestIcmp {
			right, wrong = impl.ErrSize, impl.ErrSize
		}
		b := bytes.Clone(room[:n])
		if n >= 4 {
			resumIcmp(b)
		}
		checkDecodeIcmp(t, b, right)
		if n > 0 {
			b[n-1] ^= 2
		}
		checkDecodeIcmp(t, b, wrong)
	}
	checkDecodeIcmp(t, make([]byte, shortestIcmp), impl.ErrSum)
	checkDecodeIcmp(t, room[:shortestIcmp], impl.OK)
}

// Of all sums that a message may have one is right; but 0 and 65535 are right together.
func TestDecodeIcmpAsksTheSum(t *testing.T) {
	for _, m := range []impl.Icmp{{}, {Type: 8, Rest: 65538}, {Type: 3, Code: 1, Body: []byte{1, 2, 3}}} {
		b := plainIcmp(m)
		right := binary.BigEndian.Uint16(b[2:])
		for sum := range 65536 {
			want := int64(impl.ErrSum)
			if sum == int(right) {
				want = impl.OK
			}
			binary.BigEndian.PutUint16(b[2:], uint16(sum))
			checkDecodeIcmp(t, b, want)
		}
	}
}

func TestIcmpSumsOfNoughtAnd65535(t *testing.T) {
	for _, body := range [][]byte{nil, {9}, {1, 2, 3, 4, 5}} {
		m := impl.Icmp{Type: 8, Code: 1, Body: body}
		// The low half of Rest takes up what is lacking to 65535.
		m.Rest = int64(binary.BigEndian.Uint16(plainIcmp(m)[2:]))
		b, code := impl.EncodeIcmp(m)
		if code != impl.OK || b[2] != 0 || b[3] != 0 {
			t.Fatalf("EncodeIcmp(%v): %x, %d", m, b, code)
		}
		checkDecodeIcmp(t, b, impl.OK)
		b[2], b[3] = 255, 255
		checkDecodeIcmp(t, b, impl.OK)
		b[1] = 2
		checkDecodeIcmp(t, b, impl.ErrSum)
		b[2], b[3] = 0, 0
		checkDecodeIcmp(t, b, impl.ErrSum)
	}
}

// The sum is over the body, too, and over a last byte that stands alone.
func TestTurnedBitsInAnIcmp(t *testing.T) {
	for _, n := range []int{0, 1, 2, 27, 28} {
		b := plainIcmp(impl.Icmp{Type: 3, Code: 3, Rest: 7, Body: randomBytes(newChance(), n)})
		for bit := range 8 * len(b) {
			turnBit(b, bit)
			checkDecodeIcmp(t, b, impl.ErrSum)
			turnBit(b, bit)
		}
		checkDecodeIcmp(t, b, impl.OK)
	}
}

// quotable may be complained about, and has n bytes of payload, the first of which are ports and a sequence number.
func quotable(n int) impl.Packet {
	p := wholePacket(n)
	p.ID, p.TTL = 0xABCD, 1
	return p
}

// illButForAddresses are packets of which EncodeIP is not OK, with addresses of hosts where these are not at fault.
func illButForAddresses() []impl.Packet {
	list := illPackets()
	for i := range list {
		if list[i].Src == 0 {
			list[i].Src = ownAddr
		}
		if list[i].Dst == 0 {
			list[i].Dst = near
		}
	}
	return list
}

func TestMayComplainAsksForAPacket(t *testing.T) {
	for _, p := range illButForAddresses() {
		checkMayComplain(t, p, false)
	}
	for _, n := range []int{0, 1, 7, 8, 9, 1480, impl.MaxPacket - shortestHead} {
		checkMayComplain(t, quotable(n), true)
	}
	checkMayComplain(t, quotable(impl.MaxPacket-shortestHead+1), false)
	for _, n := range append(edgeNumbers(), 1, 254) {
		isByte, isNumber := n >= 0 && n <= 255, n >= 0 && n <= 65535
		for _, c := range []struct {
			set   func(*impl.Packet)
			valid bool
		}{
			{func(p *impl.Packet) { p.Tos = n }, isByte},
			{func(p *impl.Packet) { p.TTL = n }, isByte},
			{func(p *impl.Packet) { p.ID = n }, isNumber},
		} {
			p := quotable(8)
			c.set(&p)
			checkMayComplain(t, p, c.valid)
		}
	}
}

// Neither flags nor options matter, but for options that cannot be.
func TestMayComplainFlagsAndOptions(t *testing.T) {
	for _, flags := range []impl.Packet{{}, {DF: true}, {MF: true}, {DF: true, MF: true}} {
		for options := range 49 {
			p := quotable(16)
			p.DF, p.MF, p.Options = flags.DF, flags.MF, make([]byte, options)
			checkMayComplain(t, p, options <= 40 && options%4 == 0)
		}
	}
}

func TestMayComplainAsksTheOffset(t *testing.T) {
	for _, offset := range append(edgeNumbers(), 1, 4, 7, 8, 16, 2048, lastOffset) {
		for _, n := range []int{0, 7, 8} {
			p := quotable(n)
			p.Offset = offset
			checkMayComplain(t, p, offset == 0)
			p.MF = true
			checkMayComplain(t, p, offset == 0)
		}
	}
}

// addrsOfEachKind are the first and the last addresses of each kind, and numbers that are none.
func addrsOfEachKind() []int64 {
	return []int64{
		-1, 0, 1, 10 << 24, 127<<24 - 1, 127 << 24, 127<<24 + 1, 128<<24 - 1, 128 << 24, 192<<24 | 168<<16,
		224<<24 - 1, 224 << 24, 224<<24 + 1, 240<<24 - 1, 240 << 24, lastAddr - 1, lastAddr, lastAddr + 1, 1<<32 + 10<<24, -10 << 24,
	}
}

func TestMayComplainAsksTheAddresses(t *testing.T) {
	for _, src := range addrsOfEachKind() {
		for _, dst := range addrsOfEachKind() {
			p := quotable(8)
			p.Src, p.Dst = src, dst
			checkMayComplain(t, p, impl.AddrKind(src) == impl.AddrHost && impl.AddrKind(dst) == impl.AddrHost)
		}
	}
}

// Of ProtoIcmp only echoes and their replies may be complained about; of others the payload is not looked at.
func TestMayComplainAsksTheFirstByte(t *testing.T) {
	for proto := int64(-1); proto <= 256; proto++ {
		p := quotable(0)
		p.Proto = proto
		valid := proto >= 0 && proto <= 255
		checkMayComplain(t, p, valid && proto != impl.ProtoIcmp)
		for first := range 256 {
			for _, n := range []int{1, 8} {
				p.Payload = make([]byte, n)
				p.Payload[0] = byte(first)
				checkMayComplain(t, p, valid && (proto != impl.ProtoIcmp || first == 0 || first == 8))
			}
		}
	}
}

func TestComplaint(t *testing.T) {
	p := impl.Packet{
		Tos: 1, ID: 0x0203, DF: true, TTL: 6, Proto: 7, Src: 0x08090A0B, Dst: 0x0C0D0E0F,
		Options: []byte{16, 17, 18, 19}, Payload: []byte{20, 21, 22, 23, 24, 25, 26, 27, 28},
	}
	got, code := impl.Complain(p, 0xC0A80001, impl.IcmpUnreachable, impl.CodeTooBig, 0x01020304)
	want := impl.Packet{TTL: 64, Proto: 1, Src: 0xC0A80001, Dst: 0x08090A0B, Payload: []byte{
		3, 4, 0x9C, 0x95, 1, 2, 3, 4,
		0x46, 1, 0, 33, 2, 3, 0x40, 0, 6, 7, 0x23, 0x7F, 8, 9, 10, 11, 12, 13, 14, 15, 16, 17, 18, 19,
		20, 21, 22, 23, 24, 25, 26, 27,
	}}
	if code != impl.OK || !samePacket(got, want) {
		t.Errorf("Complain(%v): %v, %x, %d, not %x", p, got, got.Payload, code, want.Payload)
	}
}

// The head is quoted whole, with its options and flags; of the payload at most 8 bytes.
func TestComplaintsQuote(t *testing.T) {
	chance := newChance()
	for words := range 11 {
		for _, n := range []int{0, 1, 7, 8, 9, 100, 65475} {
			for _, flags := range []impl.Packet{{}, {DF: true}, {MF: true}, {DF: true, MF: true}} {
				p := quotable(n)
				p.DF, p.MF, p.Options = flags.DF, flags.MF, randomBytes(chance, 4*words)
				for _, kind := range []int64{impl.IcmpUnreachable, impl.IcmpExceeded} {
					c := checkComplain(t, p, complainer, kind, chance.Int63n(256), chance.Int63n(1<<32), impl.OK)
					m, code := impl.DecodeIcmp(c.Payload)
					if code != impl.OK || len(m.Body) != shortestHead+4*words+min(n, quoted) {
						t.Fatalf("a complaint about %d words and %d bytes: %v, %d", words, n, m, code)
					}
				}
			}
		}
	}
}

func TestComplainAsksItsNumbers(t *testing.T) {
	p := quotable(20)
	for _, n := range append(edgeNumbers(), addrsOfEachKind()...) {
		isAddr, isByte := n >= 0 && n <= lastAddr, n >= 0 && n <= 255
		checkComplain(t, p, n, impl.IcmpUnreachable, impl.CodeHost, 0, codeFor(isAddr))
		checkComplain(t, p, complainer, impl.IcmpUnreachable, n, 0, codeFor(isByte))
		checkComplain(t, p, complainer, impl.IcmpExceeded, impl.CodeTtl, n, codeFor(isAddr))
		checkComplain(t, p, complainer, n, 0, 0, impl.ErrForm)
	}
	for kind := int64(-300); kind <= 300; kind++ {
		checkComplain(t, p, complainer, kind, 0, 0, codeFor(kind == 3 || kind == 11))
	}
	for code := int64(-300); code <= 600; code++ {
		checkComplain(t, p, complainer, impl.IcmpExceeded, code, lastAddr, codeFor(code >= 0 && code <= 255))
	}
}

// One code for all that is wrong, whether alone or with others, and no packet with it.
func TestComplainRefuses(t *testing.T) {
	ill := illButForAddresses()
	for _, set := range []func(*impl.Packet){
		func(p *impl.Packet) { p.Offset = 8 },
		func(p *impl.Packet) { p.Src = lastAddr }, func(p *impl.Packet) { p.Dst = lastAddr },
		func(p *impl.Packet) { p.Src = 0 }, func(p *impl.Packet) { p.Dst = 127<<24 + 1 },
		func(p *impl.Packet) { p.Proto, p.Payload = impl.ProtoIcmp, nil },
		func(p *impl.Packet) { p.Proto, p.Payload[0] = impl.ProtoIcmp, impl.IcmpUnreachable },
		func(p *impl.Packet) { p.Proto, p.Payload[0] = impl.ProtoIcmp, 5 },
	} {
		p := quotable(12)
		set(&p)
		ill = append(ill, p)
	}
	for _, p := range ill {
		checkComplain(t, p, complainer, impl.IcmpUnreachable, 0, 0, impl.ErrForm)
		checkComplain(t, p, -1, impl.IcmpEcho, 256, -1, impl.ErrForm)
	}
	for _, c := range [][4]int64{
		{-1, 3, 0, 0}, {lastAddr + 1, 11, 0, 0}, {1, 8, 0, 0}, {1, 0, 0, 0}, {1, 3, -1, 0}, {1, 3, 256, 0}, {1, 3, 0, -1},
		{1, 3, 0, lastAddr + 1}, {-1, 8, 256, -1}, {1, 8, 256, 0}, {1, 3, 256, lastAddr + 1}, {-1, 3, 0, -1},
	} {
		checkComplain(t, quotable(8), c[0], c[1], c[2], c[3], impl.ErrForm)
	}
}

// numberOf is the number that so many bytes tell, from a place on.
func numberOf(b []byte, from, size int) int64 {
	var n int64
	for _, x := range b[from : from+size] {
		n = 256*n + int64(x)
	}
	return n
}

// randomQuotable may be complained about, whatever it is else; it has at least 8 bytes of payload.
func randomQuotable(chance *rand.Rand) impl.Packet {
	p := randomPacket(chance, chance.Intn(11), 8+chance.Intn(40))
	hosts := []int64{1, 10<<24 + 3, 127<<24 - 1, 128 << 24, 224<<24 - 1}
	p.Src, p.Dst = hosts[chance.Intn(len(hosts))], hosts[chance.Intn(len(hosts))]
	p.Offset = 0
	if p.Proto == impl.ProtoIcmp || chance.Intn(4) == 0 {
		p.Proto, p.Payload[0] = impl.ProtoIcmp, byte(8*chance.Intn(2))
	}
	return p
}

// P13: a complaint about a packet with at least 8 bytes of payload tells its protocol, addresses, number and ports.
func TestComplaintsTellThePacket(t *testing.T) {
	chance := newChance()
	for range 5000 {
		p := randomQuotable(chance)
		kind := []int64{impl.IcmpUnreachable, impl.IcmpExceeded}[chance.Intn(2)]
		c, code := impl.Complain(p, complainer, kind, chance.Int63n(256), chance.Int63n(1<<32))
		if code != impl.OK {
			t.Fatalf("Complain(%s): %d", shortly(p), code)
		}
		wire, _ := impl.EncodeIP(c)
		come, _ := impl.DecodeIP(wire)
		m, code := impl.DecodeIcmp(come.Payload)
		if code != impl.OK || come.Dst != p.Src || m.Type != kind {
			t.Fatalf("DecodeIcmp of the complaint %v about %s: %v, %d", c, shortly(p), m, code)
		}
		want := impl.Quote{
			Proto: p.Proto, Src: p.Src, Dst: p.Dst, ID: p.ID, SrcPort: numberOf(p.Payload, 0, 2),
			DstPort: numberOf(p.Payload, 2, 2), Seq: numberOf(p.Payload, 4, 4),
		}
		if q, code := impl.ReadQuote(m.Body); q != want || code != impl.OK {
			t.Fatalf("ReadQuote of the complaint about %s: %+v, %d, not %+v", shortly(p), q, code, want)
		}
	}
}

// P13: about a complaint there is none, nor about a fragment of one.
func TestNoComplaintsAboutComplaints(t *testing.T) {
	chance := newChance()
	for range 500 {
		p := randomQuotable(chance)
		for _, kind := range []int64{impl.IcmpUnreachable, impl.IcmpExceeded} {
			c, _ := impl.Complain(p, complainer, kind, chance.Int63n(256), chance.Int63n(1<<32))
			parts, code := impl.Fragment(c, leastMtu)
			if code != impl.OK {
				t.Fatalf("Fragment of a complaint about %s: %d", shortly(p), code)
			}
			for _, part := range append(parts, c) {
				checkMayComplain(t, part, false)
				for _, again := range []int64{impl.IcmpUnreachable, impl.IcmpExceeded} {
					checkComplain(t, part, complainer, again, 0, 0, impl.ErrForm)
				}
			}
		}
	}
}

// A quote of a packet with fewer than 8 bytes of payload cannot be read.
func TestShortQuotes(t *testing.T) {
	for words := range 11 {
		for n := range 12 {
			p := quotable(n)
			p.Options = make([]byte, 4*words)
			c, _ := impl.Complain(p, complainer, impl.IcmpExceeded, impl.CodeTtl, 0)
			m, _ := impl.DecodeIcmp(c.Payload)
			want := int64(impl.OK)
			if n < quoted {
				want = impl.ErrShort
			}
			checkReadQuote(t, m.Body, want)
		}
	}
}

// A head that is cut anywhere; where it is long enough for one without options it lacks what its first byte tells.
func TestCutQuotes(t *testing.T) {
	for words := range 11 {
		p := randomPacket(newChance(), words, 20)
		b := plainPacket(p)
		head := shortestHead + 4*words
		checkReadQuote(t, nil, impl.ErrShort)
		for n := range len(b) {
			want := int64(impl.OK)
			switch {
			case n < shortestHead:
				want = impl.ErrShort
			case n < head:
				want = impl.ErrLength
			case n < head+quoted:
				want = impl.ErrShort
			}
			checkReadQuote(t, b[:n], want)
		}
		checkReadQuote(t, append(b, make([]byte, 1<<17)...), impl.OK)
	}
}

// Each first byte ahead of each number of bytes: version, then the head's length, then the sum, then what is behind.
func TestReadQuoteAsksTheFirstByte(t *testing.T) {
	for n := shortestHead; n <= longestHead+quoted+2; n++ {
		for first := range 256 {
			b := make([]byte, n)
			b[0], b[n-1] = byte(first), 1
			head := first & 15 * 4
			right, wrong := int64(impl.OK), int64(impl.ErrSum)
			switch {
			case first>>4 != 4:
				right, wrong = impl.ErrVersion, impl.ErrVersion
			case head < shortestHead || head > n:
				right, wrong = impl.ErrLength, impl.ErrLength
			case n < head+quoted:
				right = impl.ErrShort
			}
			checkReadQuote(t, resum(bytes.Clone(b)), right)
			checkReadQuote(t, b, wrong)
		}
	}
}

// The sum is the head's alone; what DecodeIP asks besides (the whole length, the first flag, the place) counts for nothing.
func TestReadQuoteAsksTheHeadAlone(t *testing.T) {
	for _, words := range []int{0, 1, 10} {
		head := shortestHead + 4*words
		b := plainPacket(randomPacket(newChance(), words, quoted))
		for bit := range 8 * len(b) {
			turnBit(b, bit)
			switch {
			case bit/8 >= head:
				checkReadQuote(t, b, impl.OK)
			case bit >= 8:
				checkReadQuote(t, b, impl.ErrSum)
			}
			turnBit(b, bit)
		}
		for _, number := range []uint16{0, 1, 19, 20, 21, 0x7FFF, 0x8000, 0xE000, 0xFFFF} {
			for _, place := range []int{2, 4, 6, 8} {
				b := bytes.Clone(b)
				binary.BigEndian.PutUint16(b[place:], number)
				checkReadQuote(t, resum(b), impl.OK)
			}
		}
	}
}

// A head's sum of 0 and one of 65535 are one sum, as in DecodeIP.
func TestReadQuoteSumsOfNoughtAnd65535(t *testing.T) {
	for words := range 11 {
		b := plainPacket(withNoSum(randomPacket(newChance(), words, quoted)))
		checkReadQuote(t, b, impl.OK)
		b[10], b[11] = 255, 255
		checkReadQuote(t, b, impl.OK)
		b[8] ^= 1
		checkReadQuote(t, b, impl.ErrSum)
		b[10], b[11] = 0, 0
		checkReadQuote(t, b, impl.ErrSum)
	}
}

func TestReadQuoteAnswersAsTheModel(t *testing.T) {
	chance := newChance()
	told := map[int64]int{}
	for range 30000 {
		b := likelyBytes(chance)
		_, code := impl.ReadQuote(b)
		told[code]++
		checkReadQuote(t, b, code)
	}
	for _, code := range []int64{impl.OK, impl.ErrShort, impl.ErrVersion, impl.ErrLength, impl.ErrSum} {
		if told[code] < 100 {
			t.Errorf("code %d comes %d times", code, told[code])
		}
	}
}

// P51: whatever it is given a call ends, and answers the same again.
func TestComplaintsAnswerTheSameAgain(t *testing.T) {
	chance := newChance()
	numbers := append(edgeNumbers(), 1, 3, 8, 11, 17, ownAddr, near)
	pick := func() int64 { return numbers[chance.Intn(len(numbers))] }
	for range 3000 {
		m := impl.Icmp{Type: pick(), Code: pick(), Rest: pick(), Body: randomBytes(chance, chance.Intn(50))}
		b, code := impl.EncodeIcmp(m)
		again, codeAgain := impl.EncodeIcmp(m)
		if !bytes.Equal(b, again) || code != codeAgain {
			t.Errorf("EncodeIcmp(%v): %x, %d, then %x, %d", m, b, code, again, codeAgain)
		}
		bytesOf := randomBytes(chance, chance.Intn(60))
		if len(bytesOf) >= 4 && chance.Intn(3) > 0 {
			resumIcmp(bytesOf)
		}
		_, code = impl.DecodeIcmp(bytesOf)
		checkDecodeIcmp(t, bytesOf, code)
		checkDecodeIcmp(t, bytesOf, code)
		p := impl.Packet{
			Tos: pick(), ID: pick(), DF: chance.Intn(2) == 1, MF: chance.Intn(2) == 1, Offset: pick(), TTL: pick(), Proto: pick(),
			Src: pick(), Dst: pick(), Options: randomBytes(chance, chance.Intn(50)), Payload: randomBytes(chance, chance.Intn(50)),
		}
		if chance.Intn(2) == 1 {
			p = randomQuotable(chance)
		}
		may, from, kind, say, rest := impl.MayComplain(p), pick(), pick(), pick(), pick()
		checkMayComplain(t, p, may)
		_, code = impl.Complain(p, from, kind, say, rest)
		checkComplain(t, p, from, kind, say, rest, code)
		checkComplain(t, clonePacket(p), from, kind, say, rest, code)
	}
}

// P51: a body stays as it is, the room behind it too, and is not what the bytes stand in.
func TestEncodeIcmpLeavesItsBody(t *testing.T) {
	for _, n := range []int{0, 1, 100, mostBody, mostBody + 1} {
		for _, kind := range []int64{0, 3, 8, 11, 99, 256} {
			room := randomBytes(newChance(), n+40)
			m := impl.Icmp{Type: kind, Body: room[20 : 20+n]}
			checkWritesApart(t, room, func() ([]byte, int64) { return impl.EncodeIcmp(m) })
		}
	}
}

// P51: the bytes that are read stay as they are, the room behind them too; the body stands apart from them.
func TestDecodeIcmpLeavesItsBytes(t *testing.T) {
	for _, n := range []int{0, 1, 100, mostBody} {
		m := impl.Icmp{Type: 8, Rest: 9, Body: randomBytes(newChance(), n)}
		checkReadsApart(t, plainIcmp(m), impl.DecodeIcmp, sameIcmp, m, func(m impl.Icmp) []byte { return m.Body })
	}
}

// P51: a packet that is complained about, and a quote that is read, stay as they are; the complaint stands apart.
func TestComplainLeavesItsPacket(t *testing.T) {
	for _, c := range []struct{ options, payload int }{{0, 0}, {0, 8}, {4, 1}, {40, 7}, {40, 100}, {3, 9}, {0, 65516}} {
		room := randomBytes(newChance(), c.options+c.payload+100)
		kept := bytes.Clone(room)
		p := quotable(0)
		p.Options = room[10 : 10+c.options]
		p.Payload = room[60+c.options : 60+c.options+c.payload]
		impl.MayComplain(p)
		first, code := impl.Complain(p, complainer, impl.IcmpUnreachable, impl.CodePort, 0)
		told := clonePacket(first)
		second, codeAgain := impl.Complain(p, complainer, impl.IcmpUnreachable, impl.CodePort, 0)
		if code != codeAgain || !samePacket(second, told) {
			t.Errorf("another answer the second time for %d and %d bytes", c.options, c.payload)
		}
		impl.ReadQuote(second.Payload[min(len(second.Payload), shortestIcmp):])
		if !samePacket(second, told) {
			t.Errorf("a quote of %d and %d bytes is changed", c.options, c.payload)
		}
		spoil(second.Payload, 99)
		if !samePacket(first, told) || !bytes.Equal(room, kept) {
			t.Errorf("a complaint about %d and %d bytes shares memory", c.options, c.payload)
		}
		clear(room)
		if !samePacket(first, told) {
			t.Errorf("a complaint about %d and %d bytes is the argument's memory", c.options, c.payload)
		}
	}
}
