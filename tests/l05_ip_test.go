package tests

import (
	"bytes"
	"encoding/binary"
	"math"
	"math/rand"
	"testing"

	"loop.example/g00003/impl"
)

const (
	shortestHead = 20
	longestHead  = 60
	lastOffset   = 65528
	// mostData bounds where a payload of a datagram may end.
	mostData = 65535
)

// resum writes the right sum into a head as long as its first byte tells, or as there are bytes.
func resum(b []byte) []byte {
	head := b[:min(len(b), int(b[0]&15)*4)]
	binary.BigEndian.PutUint16(b[10:], 0)
	binary.BigEndian.PutUint16(b[10:], uint16(plainChecksum(head)))
	return b
}

// plainPacket is a valid packet's bytes, written apart from the program.
func plainPacket(p impl.Packet) []byte {
	flags := uint16(p.Offset / 8)
	if p.DF {
		flags += 16384
	}
	if p.MF {
		flags += 8192
	}
	b := []byte{byte(69 + len(p.Options)/4), byte(p.Tos)}
	b = binary.BigEndian.AppendUint16(b, uint16(20+len(p.Options)+len(p.Payload)))
	b = binary.BigEndian.AppendUint16(b, uint16(p.ID))
	b = binary.BigEndian.AppendUint16(b, flags)
	b = append(b, byte(p.TTL), byte(p.Proto), 0, 0)
	b = binary.BigEndian.AppendUint32(b, uint32(p.Src))
	b = binary.BigEndian.AppendUint32(b, uint32(p.Dst))
	return append(resum(append(b, p.Options...)), p.Payload...)
}

// modelDecodeIP tells the document's errors one behind the other.
func modelDecodeIP(b []byte) (impl.Packet, int64) {
	if len(b) < 20 {
		return impl.Packet{}, impl.ErrShort
	}
	if b[0]/16 != 4 {
		return impl.Packet{}, impl.ErrVersion
	}
	head := int(b[0]%16) * 4
	if head < 20 || head > len(b) {
		return impl.Packet{}, impl.ErrLength
	}
	if plainChecksum(b[:head]) != 0 {
		return impl.Packet{}, impl.ErrSum
	}
	whole := int(binary.BigEndian.Uint16(b[2:]))
	if whole < head || whole > len(b) {
		return impl.Packet{}, impl.ErrLength
	}
	flags := binary.BigEndian.Uint16(b[6:])
	offset := int64(flags%8192) * 8
	if flags >= 32768 || offset+int64(whole-head) > mostData {
		return impl.Packet{}, impl.ErrForm
	}
	return impl.Packet{
		Tos: int64(b[1]), ID: int64(b[4])<<8 + int64(b[5]), DF: flags/16384%2 == 1, MF: flags/8192%2 == 1, Offset: offset,
		TTL: int64(b[8]), Proto: int64(b[9]),
		Src: int64(binary.BigEndian.Uint32(b[12:])), Dst: int64(binary.BigEndian.Uint32(b[16:])),
		Options: bytes.Clone(b[20:head]), Payload: bytes.Clone(b[head:whole]),
	}, impl.OK
}

func samePacket(a, b impl.Packet) bool {
	return a.Tos == b.Tos && a.ID == b.ID && a.DF == b.DF && a.MF == b.MF && a.Offset == b.Offset &&
		a.TTL == b.TTL && a.Proto == b.Proto && a.Src == b.Src && a.Dst == b.Dst &&
		bytes.Equal(a.Options, b.Options) && bytes.Equal(a.Payload, b.Payload)
}

func isNoPacket(p impl.Packet) bool { return samePacket(p, impl.Packet{}) }

// randomPacket is valid, whatever the number of words of options from 0 to 10; the payload may be of up to 60000 bytes.
func randomPacket(chance *rand.Rand, words, payload int) impl.Packet {
	return impl.Packet{
		Tos: chance.Int63n(256), ID: chance.Int63n(65536), DF: chance.Intn(2) == 1, MF: chance.Intn(2) == 1,
		Offset: 8 * chance.Int63n(int64(mostData-payload)/8+1), TTL: chance.Int63n(256), Proto: chance.Int63n(256),
		Src: chance.Int63n(lastAddr + 1), Dst: chance.Int63n(lastAddr + 1),
		Options: randomBytes(chance, 4*words), Payload: randomBytes(chance, payload),
	}
}

func simplePacket() impl.Packet {
	return impl.Packet{ID: 7, TTL: 64, Proto: impl.ProtoUdp, Src: ownAddr, Dst: near, Payload: []byte{1, 2, 3}}
}

// edgePackets are valid: each field at both ends of its range, sizes up to the greatest.
func edgePackets() []impl.Packet {
	full := bytes.Repeat([]byte{255}, impl.MaxPacket)
	list := []impl.Packet{
		{},
		{Options: []byte{}, Payload: []byte{}},
		{
			Tos: 255, ID: 65535, DF: true, MF: true, Offset: lastOffset, TTL: 255, Proto: 255, Src: lastAddr, Dst: lastAddr,
			Options: full[:40], Payload: full[:7],
		},
		{Payload: full[:impl.MaxPacket-shortestHead]},
		{Options: full[:4], Payload: full[:impl.MaxPacket-24]},
		{Options: full[:40], Payload: full[:impl.MaxPacket-longestHead]},
		{Offset: lastOffset},
		{Offset: lastOffset, Payload: full[:7]},
		{Offset: 24, Payload: full[:mostData-24]},
		{Offset: 8, Payload: []byte{1}},
	}
	for _, n := range []int64{0, 1, 127, 128, 254, 255} {
		list = append(list, impl.Packet{Tos: n}, impl.Packet{TTL: n}, impl.Packet{Proto: n})
	}
	for _, n := range []int64{0, 1, 255, 256, 65534, 65535} {
		list = append(list, impl.Packet{ID: n})
	}
	for _, n := range []int64{0, 1, 255, 256, 65536, 1 << 24, 1 << 31, lastAddr - 1, lastAddr} {
		list = append(list, impl.Packet{Src: n}, impl.Packet{Dst: n})
	}
	return list
}

func somePackets() []impl.Packet {
	chance := newChance()
	list := edgePackets()
	for _, bits := range []impl.Packet{{}, {DF: true}, {MF: true}, {DF: true, MF: true}} {
		for _, offset := range []int64{0, 8, 2040, 2048, 32768, lastOffset - 8, lastOffset} {
			p := simplePacket()
			p.DF, p.MF, p.Offset = bits.DF, bits.MF, offset
			list = append(list, p)
		}
	}
	for words := range 11 {
		for _, payload := range []int{0, 1, 2, 7, 8, 9, 100, 1480} {
			list = append(list, randomPacket(chance, words, payload))
		}
	}
	return append(list, randomPacket(chance, 10, 60000))
}

func checkEncodeIP(t *testing.T, p impl.Packet, want int64) {
	t.Helper()
	b, code := impl.EncodeIP(p)
	if code != want || want != impl.OK && len(b) != 0 || want == impl.OK && !bytes.Equal(b, plainPacket(p)) {
		t.Errorf("EncodeIP of %.200v: %d bytes, %.60x, %d, not %d", p, len(b), b, code, want)
	}
}

// checkPacket asks for bytes and size of a packet that is valid or not; a valid one must not be too long.
func checkPacket(t *testing.T, p impl.Packet, valid bool) {
	t.Helper()
	code, size := int64(impl.ErrForm), int64(0)
	if valid {
		code, size = impl.OK, int64(20+len(p.Options)+len(p.Payload))
	}
	checkEncodeIP(t, p, code)
	if got := impl.PacketSize(p); got != size {
		t.Errorf("PacketSize of %.200v: %d, not %d", p, got, size)
	}
}

// checkDecodeIP asks for the zero packet with every code that refuses, and for the model's packet else.
func checkDecodeIP(t *testing.T, b []byte, want int64) {
	t.Helper()
	p, code := impl.DecodeIP(b)
	model, modelCode := modelDecodeIP(b)
	if code != want || code != modelCode || !samePacket(p, model) {
		t.Errorf("DecodeIP of %d bytes %.60x: %.200v, %d, not %.200v, %d", len(b), b, p, code, model, want)
	}
}

func TestPacketBytes(t *testing.T) {
	p := impl.Packet{
		Tos: 1, ID: 0x0203, DF: true, Offset: 0x0405 * 8, TTL: 6, Proto: 7, Src: 0x08090A0B, Dst: 0x0C0D0E0F,
		Options: []byte{16, 17, 18, 19}, Payload: []byte{20, 21, 22},
	}
	want := []byte{0x46, 1, 0, 27, 2, 3, 0x44, 5, 6, 7, 0x1F, 0x80, 8, 9, 10, 11, 12, 13, 14, 15, 16, 17, 18, 19, 20, 21, 22}
	if b, code := impl.EncodeIP(p); !bytes.Equal(b, want) || code != impl.OK {
		t.Errorf("EncodeIP(%v): %x, %d, not %x", p, b, code, want)
	}
	if got, code := impl.DecodeIP(want); !samePacket(got, p) || code != impl.OK {
		t.Errorf("DecodeIP(%x): %v, %d, not %v", want, got, code, p)
	}
	for _, p := range somePackets() {
		checkPacket(t, p, true)
	}
}

// P6: valid packets come back from their bytes.
func TestPacketsComeBack(t *testing.T) {
	for _, p := range somePackets() {
		b, code := impl.EncodeIP(p)
		if code != impl.OK {
			t.Errorf("EncodeIP(%.200v): %d", p, code)
		}
		if got, code := impl.DecodeIP(b); !samePacket(got, p) || code != impl.OK {
			t.Errorf("DecodeIP(%.60x): %.200v, %d, not %.200v", b, got, code, p)
		}
		if got, code := impl.DecodeIP(plainPacket(p)); !samePacket(got, p) || code != impl.OK {
			t.Errorf("DecodeIP(%.60x): %.200v, %d, not %.200v", plainPacket(p), got, code, p)
		}
	}
}

// The sum stands in the head: the head with it has the checksum 0, the payload counts for nothing.
func TestPacketSumIsTheHeads(t *testing.T) {
	for _, p := range somePackets() {
		b, _ := impl.EncodeIP(p)
		head := shortestHead + len(p.Options)
		if len(b) != head+len(p.Payload) || impl.Checksum(b[:head]) != 0 {
			t.Fatalf("EncodeIP(%.200v): %.60x", p, b)
		}
		for i := head; i < min(len(b), head+20); i++ {
			b[i]++
			checkDecodeIP(t, b, impl.OK)
		}
	}
}

func TestPacketAsksItsNumbers(t *testing.T) {
	for _, n := range append(edgeNumbers(), 1, 254, 65534) {
		isByte, isNumber, isAddr := n >= 0 && n <= 255, n >= 0 && n <= 65535, n >= 0 && n <= lastAddr
		for _, c := range []struct {
			set   func(*impl.Packet)
			valid bool
		}{
			{func(p *impl.Packet) { p.Tos = n }, isByte},
			{func(p *impl.Packet) { p.TTL = n }, isByte},
			{func(p *impl.Packet) { p.Proto = n }, isByte},
			{func(p *impl.Packet) { p.ID = n }, isNumber},
			{func(p *impl.Packet) { p.Src = n }, isAddr},
			{func(p *impl.Packet) { p.Dst = n }, isAddr},
			{func(p *impl.Packet) { p.Tos, p.TTL, p.Proto, p.ID, p.Src, p.Dst = n, n, n, n, n, n }, isByte},
		} {
			p := simplePacket()
			c.set(&p)
			checkPacket(t, p, c.valid)
		}
	}
}

func TestPacketAsksItsOffset(t *testing.T) {
	offsets := append(edgeNumbers(), 4, 8, 12, 16, lastOffset-8, lastOffset-1, lastOffset, lastOffset+1, lastOffset+4, 65536, 65544, -8)
	for n := range int64(100) {
		offsets = append(offsets, n)
	}
	for _, n := range offsets {
		checkPacket(t, impl.Packet{Offset: n, Payload: []byte{1}}, n >= 0 && n <= lastOffset && n%8 == 0)
	}
	for n := int64(0); n <= lastOffset; n += 8 {
		checkDecodeIP(t, plainPacket(impl.Packet{Offset: n}), impl.OK)
	}
}

func TestPacketAsksItsOptions(t *testing.T) {
	chance := newChance()
	for _, n := range []int{0, 1, 2, 3, 4, 5, 7, 8, 12, 36, 37, 39, 40, 41, 43, 44, 48, 60, 64, 256, 1 << 16, 1 << 20} {
		p := simplePacket()
		p.Options = randomBytes(chance, n)
		checkPacket(t, p, n <= 40 && n%4 == 0)
	}
}

// The first three bits behind ID are a nought, DF and MF.
func TestPacketFlags(t *testing.T) {
	for _, c := range []struct {
		df, mf bool
		want   byte
	}{{false, false, 0}, {true, false, 0x40}, {false, true, 0x20}, {true, true, 0x60}} {
		for _, offset := range []int64{0, lastOffset} {
			p := impl.Packet{DF: c.df, MF: c.mf, Offset: offset}
			b, code := impl.EncodeIP(p)
			if code != impl.OK || b[6]&0xE0 != c.want {
				t.Errorf("EncodeIP(%v): %x, %d", p, b, code)
			}
			if got, code := impl.DecodeIP(b); code != impl.OK || got.DF != c.df || got.MF != c.mf || got.Offset != offset {
				t.Errorf("DecodeIP(%x): %v, %d", b, got, code)
			}
		}
	}
}

// Size and place may be too great for bytes in a packet that is valid: its size is told none the less.
func TestEncodeIPBoundsThePacket(t *testing.T) {
	room := make([]byte, 1<<20)
	for options := 0; options <= 40; options += 4 {
		most := impl.MaxPacket - shortestHead - options
		for _, n := range []int{0, 1, most - 1, most, most + 1, most + 2, impl.MaxPacket, impl.MaxPacket + 1, 1 << 17, 1 << 20} {
			p := impl.Packet{Options: room[:options], Payload: room[:n]}
			want := int64(impl.OK)
			if n > most {
				want = impl.ErrSize
			}
			checkEncodeIP(t, p, want)
			if got := impl.PacketSize(p); got != int64(20+options+n) {
				t.Errorf("PacketSize with %d and %d bytes: %d", options, n, got)
			}
		}
	}
}

func TestEncodeIPBoundsTheDatagram(t *testing.T) {
	room := make([]byte, 1<<17)
	for _, offset := range []int64{8, 16, 24, 32, 64, 1024, 32768, lastOffset - 8, lastOffset} {
		for _, options := range []int{0, 4, 40} {
			most := mostData - int(offset)
			for _, n := range []int{0, most - 1, most, most + 1, most + 8, 65515} {
				p := impl.Packet{Offset: offset, Options: room[:options], Payload: room[:n]}
				want := int64(impl.OK)
				if n > most || n > impl.MaxPacket-shortestHead-options {
					want = impl.ErrSize
				}
				checkEncodeIP(t, p, want)
				if got := impl.PacketSize(p); got != int64(20+options+n) {
					t.Errorf("PacketSize with %d and %d bytes: %d", options, n, got)
				}
			}
		}
	}
}

// An ill number, or ill options, are told ahead of too many bytes.
func TestEncodeIPTellsTheFirstError(t *testing.T) {
	for _, ill := range []impl.Packet{
		{Tos: -1}, {Tos: 256}, {TTL: -1}, {TTL: 256}, {Proto: -1}, {Proto: 256}, {ID: -1}, {ID: 65536},
		{Offset: -8}, {Offset: 4}, {Offset: lastOffset + 1}, {Offset: 65536}, {Offset: math.MaxInt64}, {Offset: math.MinInt64},
		{Src: -1}, {Src: lastAddr + 1}, {Dst: -1}, {Dst: lastAddr + 1},
		{Options: make([]byte, 3)}, {Options: make([]byte, 41)}, {Options: make([]byte, 44)},
	} {
		for _, n := range []int{0, impl.MaxPacket - shortestHead, impl.MaxPacket - shortestHead + 1, 1 << 20} {
			ill.Payload = make([]byte, n)
			checkPacket(t, ill, false)
		}
		ill.Payload = nil
		if ill.Offset == 0 {
			ill.Offset, ill.Payload = lastOffset, make([]byte, 8)
			checkPacket(t, ill, false)
		}
	}
}

// Fewer bytes than a head without options are too few, whatever they say.
func TestDecodeIPAsksForTwentyBytes(t *testing.T) {
	right := plainPacket(impl.Packet{Src: 1, Dst: 2})
	wrong := bytes.Repeat([]byte{255}, shortestHead)
	checkDecodeIP(t, nil, impl.ErrShort)
	for n := range shortestHead {
		checkDecodeIP(t, right[:n], impl.ErrShort)
		checkDecodeIP(t, wrong[:n], impl.ErrShort)
		checkDecodeIP(t, make([]byte, n), impl.ErrShort)
	}
	checkDecodeIP(t, right, impl.OK)
	checkDecodeIP(t, wrong, impl.ErrVersion)
	checkDecodeIP(t, make([]byte, shortestHead), impl.ErrVersion)
}

// Each first byte ahead of each number of bytes: version, then the head's length, then the sum.
func TestDecodeIPAsksItsFirstByte(t *testing.T) {
	for n := shortestHead; n <= longestHead+8; n++ {
		for first := range 256 {
			b := make([]byte, n)
			b[0], b[3] = byte(first), byte(n)
			want := int64(impl.OK)
			if first>>4 != 4 {
				want = impl.ErrVersion
			} else if head := first & 15 * 4; head < shortestHead || head > n {
				want = impl.ErrLength
			}
			checkDecodeIP(t, resum(bytes.Clone(b)), want)
			if want == impl.OK {
				want = impl.ErrSum
			}
			checkDecodeIP(t, b, want)
		}
	}
}

// Of all sums that a head may have one is right; but 0 and 65535 are right together.
func TestDecodeIPAsksTheSum(t *testing.T) {
	for _, p := range []impl.Packet{{}, simplePacket(), randomPacket(newChance(), 10, 4)} {
		b := plainPacket(p)
		right := binary.BigEndian.Uint16(b[10:])
		for sum := range 65536 {
			want := int64(impl.ErrSum)
			if sum == int(right) {
				want = impl.OK
			}
			binary.BigEndian.PutUint16(b[10:], uint16(sum))
			checkDecodeIP(t, b, want)
		}
	}
}

// withNoSum is a packet whose head has the sum 0 without one.
func withNoSum(p impl.Packet) impl.Packet {
	p.ID = 0
	p.ID = int64(binary.BigEndian.Uint16(plainPacket(p)[10:]))
	return p
}

func TestSumsOfNoughtAnd65535(t *testing.T) {
	chance := newChance()
	for words := range 11 {
		p := withNoSum(randomPacket(chance, words, 5))
		b, code := impl.EncodeIP(p)
		if code != impl.OK || b[10] != 0 || b[11] != 0 {
			t.Fatalf("EncodeIP(%v): %x, %d", p, b, code)
		}
		checkDecodeIP(t, b, impl.OK)
		b[10], b[11] = 255, 255
		checkDecodeIP(t, b, impl.OK)
		p.TTL ^= 1
		b = plainPacket(p)
		for _, x := range []byte{0, 255} {
			b[10], b[11] = x, x
			checkDecodeIP(t, b, impl.ErrSum)
		}
	}
}

// One bit turned in a head behind its first byte, or one in the first, is told.
func TestTurnedBitsInAHead(t *testing.T) {
	for _, words := range []int{0, 1, 10} {
		p := randomPacket(newChance(), words, 0)
		b := plainPacket(p)
		for bit := range 8 * len(b) {
			turnBit(b, bit)
			if got, code := impl.DecodeIP(b); code == impl.OK || !isNoPacket(got) || bit >= 8 && code != impl.ErrSum {
				t.Errorf("bit %d of %d bytes turned: %v, %d", bit, len(b), got, code)
			}
			turnBit(b, bit)
		}
		checkDecodeIP(t, b, impl.OK)
	}
}

// The whole length against the head's and the number of bytes.
func TestDecodeIPAsksTheWholeLength(t *testing.T) {
	for _, words := range []int{0, 1, 10} {
		head := shortestHead + 4*words
		for _, n := range []int{head, head + 1, head + 2, head + 50} {
			b := plainPacket(randomPacket(newChance(), words, n-head))
			for _, whole := range []int{0, 1, 19, 20, head - 1, head, head + 1, n - 1, n, n + 1, n + 256, 65535} {
				binary.BigEndian.PutUint16(b[2:], uint16(whole))
				want := int64(impl.OK)
				if whole < head || whole > n {
					want = impl.ErrLength
				}
				checkDecodeIP(t, resum(b), want)
			}
		}
	}
}

// What stands behind the whole length counts for nothing, however much it is.
func TestDecodeIPLeavesWhatIsBehind(t *testing.T) {
	chance := newChance()
	for _, p := range edgePackets() {
		b := plainPacket(p)
		for _, n := range []int{1, 2, 4, 40, 1 << 17} {
			longer := append(bytes.Clone(b), randomBytes(chance, n)...)
			if got, code := impl.DecodeIP(longer); !samePacket(got, p) || code != impl.OK {
				t.Errorf("DecodeIP of %.200v with %d bytes behind: %.200v, %d", p, n, got, code)
			}
		}
		if len(b) > shortestHead {
			checkDecodeIP(t, b[:len(b)-1], impl.ErrLength)
		}
	}
}

func TestDecodeIPAsksTheFirstFlag(t *testing.T) {
	for flags := range 65536 {
		b := plainPacket(impl.Packet{Payload: []byte{1, 2, 3, 4, 5, 6, 7}})
		binary.BigEndian.PutUint16(b[6:], uint16(flags))
		want := int64(impl.OK)
		if flags >= 32768 {
			want = impl.ErrForm
		}
		checkDecodeIP(t, resum(b), want)
	}
}

func TestDecodeIPBoundsTheDatagram(t *testing.T) {
	for _, offset := range []int64{0, 8, 16, 24, 64, 32768, lastOffset - 8, lastOffset} {
		for _, words := range []int{0, 10} {
			for _, over := range []int{-1, 0, 1, 2, 9} {
				n := mostData - int(offset) + over
				head := shortestHead + 4*words
				if n < 0 || head+n > impl.MaxPacket {
					continue
				}
				p := impl.Packet{Offset: offset, MF: true, Options: make([]byte, 4*words), Payload: make([]byte, n)}
				want := int64(impl.OK)
				if over > 0 {
					want = impl.ErrForm
				}
				checkDecodeIP(t, plainPacket(p), want)
				checkDecodeIP(t, append(plainPacket(p), 1, 2, 3), want)
			}
		}
	}
}

// packetFaults are in the document's order. A head of 24 bytes with 8 behind it is spoilt by them.
func packetFaults() []byteFault {
	return []byteFault{
		{func(b []byte) { b[0] = 0x50 | b[0]&15 }, impl.ErrVersion},
		{func(b []byte) { b[0] = b[0]&0xF0 | 4 }, impl.ErrLength},
		{func(b []byte) { b[11] ^= 1 }, impl.ErrSum},
		{func(b []byte) { b[2], b[3] = 0, 23 }, impl.ErrLength},
		{func(b []byte) { b[2], b[3] = 0, 33 }, impl.ErrLength},
		{func(b []byte) { b[6] |= 0x80 }, impl.ErrForm},
		{func(b []byte) { b[6] |= 0x1F; b[7] = 0xFF }, impl.ErrForm},
	}
}

// Of every choice of faults the first is told; of too few bytes nothing else is.
func TestDecodeIPTellsTheFirstError(t *testing.T) {
	faults := packetFaults()
	for choice := range 1 << len(faults) {
		b := plainPacket(randomPacket(newChance(), 1, 8))
		b[6], b[7] = 0, 0
		want := makeFaults(b, faults, choice, func() { resum(b) })
		checkDecodeIP(t, b, want)
		checkDecodeIP(t, b[:19], impl.ErrShort)
	}
}

// A head's length beyond the bytes is told ahead of the sum and the whole length, and behind the version.
func TestDecodeIPHeadBeyondItsBytes(t *testing.T) {
	for first := 0x46; first <= 0x4F; first++ {
		for whole := range 70 {
			b := plainPacket(impl.Packet{Payload: []byte{1, 2, 3}})
			b[0], b[3] = byte(first), byte(whole)
			checkDecodeIP(t, b, impl.ErrLength)
			checkDecodeIP(t, resum(b), impl.ErrLength)
			b[0] ^= 0x20
			checkDecodeIP(t, b, impl.ErrVersion)
		}
	}
}

// likelyBytes are often taken: a head that is right or nearly so, with bits that are set anyhow.
func likelyBytes(chance *rand.Rand) []byte {
	b := randomBytes(chance, shortestHead+chance.Intn(60))
	if chance.Intn(20) > 0 {
		b[0] = byte(0x45 + chance.Intn(11))
	}
	if chance.Intn(20) > 0 {
		b[2], b[3] = 0, byte(int(b[0]&15)*4+chance.Intn(20))
	}
	if chance.Intn(4) > 0 {
		b[6] &= 0x7F
	}
	if chance.Intn(10) > 0 {
		resum(b)
	}
	return b[:len(b)-chance.Intn(2)*chance.Intn(len(b))]
}

// P7: bytes that DecodeIP takes tell a packet whose own bytes are taken as the same.
func TestTakenBytesTellAPacket(t *testing.T) {
	chance := newChance()
	told := map[int64]int{}
	for range 30000 {
		b := likelyBytes(chance)
		p, code := impl.DecodeIP(b)
		told[code]++
		checkDecodeIP(t, b, code)
		if code == impl.OK {
			checkTaken(t, p)
		}
	}
	for _, code := range []int64{impl.OK, impl.ErrShort, impl.ErrVersion, impl.ErrLength, impl.ErrSum, impl.ErrForm} {
		if told[code] < 100 {
			t.Errorf("code %d comes %d times", code, told[code])
		}
	}
}

func checkTaken(t *testing.T, p impl.Packet) {
	t.Helper()
	own, code := impl.EncodeIP(p)
	if code != impl.OK || int64(len(own)) != impl.PacketSize(p) {
		t.Fatalf("EncodeIP(%v): %x, %d; PacketSize: %d", p, own, code, impl.PacketSize(p))
	}
	if again, code := impl.DecodeIP(own); !samePacket(again, p) || code != impl.OK {
		t.Fatalf("DecodeIP(%x): %v, %d, not %v", own, again, code, p)
	}
}

// P7: bytes that are not a packet's own (a sum of 65535 for 0, bytes behind it, the greatest of all) are taken so, too.
func TestTakenBytesThatAreNotTheOwn(t *testing.T) {
	for _, p := range append(edgePackets(), withNoSum(simplePacket())) {
		b := append(plainPacket(p), 1, 2, 3)
		if b[10] == 0 && b[11] == 0 {
			b[10], b[11] = 255, 255
		}
		got, code := impl.DecodeIP(b)
		if code != impl.OK || !samePacket(got, p) {
			t.Fatalf("DecodeIP(%.60x): %.200v, %d, not %.200v", b, got, code, p)
		}
		checkTaken(t, got)
	}
}

// P51: whatever it is given a call ends, and answers the same again.
func TestPacketsAnswerTheSameAgain(t *testing.T) {
	chance := newChance()
	numbers := edgeNumbers()
	pick := func() int64 { return numbers[chance.Intn(len(numbers))] }
	for range 3000 {
		p := impl.Packet{
			Tos: pick(), ID: pick(), DF: chance.Intn(2) == 1, MF: chance.Intn(2) == 1, Offset: pick(), TTL: pick(), Proto: pick(),
			Src: pick(), Dst: pick(), Options: randomBytes(chance, chance.Intn(50)), Payload: randomBytes(chance, chance.Intn(50)),
		}
		b, code := impl.EncodeIP(p)
		again, codeAgain := impl.EncodeIP(p)
		if !bytes.Equal(b, again) || code != codeAgain || impl.PacketSize(p) != impl.PacketSize(p) {
			t.Errorf("EncodeIP(%v): %x, %d, then %x, %d", p, b, code, again, codeAgain)
		}
		bytesOf := randomBytes(chance, chance.Intn(90))
		if chance.Intn(2) == 1 {
			bytesOf = likelyBytes(chance)
		}
		got, code := impl.DecodeIP(bytesOf)
		gotAgain, codeAgain := impl.DecodeIP(bytes.Clone(bytesOf))
		if !samePacket(got, gotAgain) || code != codeAgain {
			t.Errorf("DecodeIP(%x): %v, %d, then %v, %d", bytesOf, got, code, gotAgain, codeAgain)
		}
	}
}

// P51: options and payload stay as they are, the room behind them too, and are not what the bytes stand in.
func TestEncodeIPLeavesItsLists(t *testing.T) {
	for _, c := range []struct{ options, payload int }{{0, 0}, {4, 1}, {40, 100}, {40, 65475}, {40, 65476}, {3, 9}, {44, 9}} {
		room := randomBytes(newChance(), c.options+c.payload+100)
		p := simplePacket()
		p.Options = room[10 : 10+c.options]
		p.Payload = room[60+c.options : 60+c.options+c.payload]
		kept, size := bytes.Clone(room), impl.PacketSize(p)
		if impl.PacketSize(p) != size || !bytes.Equal(room, kept) {
			t.Errorf("PacketSize with %d and %d bytes answers otherwise, or changes them", c.options, c.payload)
		}
		checkWritesApart(t, room, func() ([]byte, int64) { return impl.EncodeIP(p) })
	}
}

// P51: the bytes that are read stay as they are, the room behind them too; options and payload stand apart from them
// and from each other.
func TestDecodeIPLeavesItsBytes(t *testing.T) {
	optionsOf := func(p impl.Packet) []byte { return p.Options }
	payloadOf := func(p impl.Packet) []byte { return p.Payload }
	for _, words := range []int{0, 1, 10} {
		for _, n := range []int{0, 1, 30, 60000} {
			p := randomPacket(newChance(), words, n)
			for _, behind := range []int{0, 10} {
				b := append(plainPacket(p), make([]byte, behind)...)
				checkReadsApart(t, b, impl.DecodeIP, samePacket, p, optionsOf, payloadOf)
			}
		}
	}
}
