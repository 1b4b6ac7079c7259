package tests

import (
	"bytes"
	"encoding/binary"
	"math"
	"math/rand"
	"testing"

	"loop.example/g00003/impl"
)

const (
	shortestUdp  = 8
	mostUdpData  = 65507
	longestUdp   = shortestUdp + mostUdpData
	falseHeadLen = 12
)

// way is from where to where a payload goes.
type way struct{ src, dst int64 }

// sentUdp is a datagram on its way.
type sentUdp struct {
	impl.Datagram
	way
}

func someWay() way { return way{ownAddr, near} }

// someWays are valid.
func someWays() []way {
	return []way{someWay(), {}, {lastAddr, lastAddr}, {0, lastAddr}, {lastAddr, 0}, {near, ownAddr}, {1, 65536}, {0x01020304, 0xFFFEFDFC}}
}

// illWays have an address that is none, on either side or on both.
func illWays() []way {
	list := []way{{-1, -1}, {lastAddr + 1, lastAddr + 1}, {-1, lastAddr + 1}}
	for _, n := range []int64{-1, -near, lastAddr + 1, 1<<32 + near, math.MinInt64, math.MaxInt64} {
		list = append(list, way{n, near}, way{near, n}, way{n, 0}, way{lastAddr, n})
	}
	return list
}

// plainFalseHead is written apart from the program.
func plainFalseHead(w way, proto byte, length int) []byte {
	b := binary.BigEndian.AppendUint32(nil, uint32(w.src))
	b = binary.BigEndian.AppendUint32(b, uint32(w.dst))
	return binary.BigEndian.AppendUint16(append(b, 0, proto), uint16(length))
}

// plainFalseSum is reckoned over false head and payload in one piece.
func plainFalseSum(w way, proto byte, payload []byte) int64 {
	return plainChecksum(append(plainFalseHead(w, proto, len(payload)), payload...))
}

// resumUdp writes the right sum into a datagram's bytes.
func resumUdp(b []byte, w way) []byte {
	binary.BigEndian.PutUint16(b[6:], 0)
	sum := plainFalseSum(w, 17, b)
	if sum == 0 {
		sum = 65535
	}
	binary.BigEndian.PutUint16(b[6:], uint16(sum))
	return b
}

// plainUdp is a valid datagram's bytes, written apart from the program.
func plainUdp(d impl.Datagram, w way) []byte {
	b := binary.BigEndian.AppendUint16(nil, uint16(d.SrcPort))
	b = binary.BigEndian.AppendUint16(b, uint16(d.DstPort))
	b = binary.BigEndian.AppendUint16(b, uint16(shortestUdp+len(d.Data)))
	return resumUdp(append(append(b, 0, 0), d.Data...), w)
}

// modelDecodeUdp tells the document's errors one behind the other.
func modelDecodeUdp(b []byte, w way) (impl.Datagram, int64) {
	switch {
	case w.src < 0 || w.src > lastAddr || w.dst < 0 || w.dst > lastAddr:
		return impl.Datagram{}, impl.ErrForm
	case len(b) < shortestUdp:
		return impl.Datagram{}, impl.ErrShort
	case numberOf(b, 4, 2) != int64(len(b)):
		return impl.Datagram{}, impl.ErrLength
	case numberOf(b, 6, 2) != 0 && plainFalseSum(w, 17, b) != 0:
		return impl.Datagram{}, impl.ErrSum
	}
	return impl.Datagram{SrcPort: numberOf(b, 0, 2), DstPort: numberOf(b, 2, 2), Data: bytes.Clone(b[8:])}, impl.OK
}

func sameDatagram(a, b impl.Datagram) bool {
	return a.SrcPort == b.SrcPort && a.DstPort == b.DstPort && bytes.Equal(a.Data, b.Data)
}

func checkEncodeUdp(t *testing.T, d impl.Datagram, w way, want int64) {
	t.Helper()
	b, code := impl.EncodeUdp(d, w.src, w.dst)
	if code != want || want != impl.OK && len(b) != 0 || want == impl.OK && !bytes.Equal(b, plainUdp(d, w)) {
		t.Errorf("EncodeUdp(%s, %v): %d bytes, %.60x, %d, not %d", shortly(d), w, len(b), b, code, want)
	}
}

// checkDecodeUdp asks for the zero datagram with every code that refuses, and for the model's datagram else.
func checkDecodeUdp(t *testing.T, b []byte, w way, want int64) {
	t.Helper()
	d, code := impl.DecodeUdp(b, w.src, w.dst)
	model, modelCode := modelDecodeUdp(b, w)
	if code != want || code != modelCode || !sameDatagram(d, model) {
		t.Errorf("DecodeUdp of %d bytes %.60x, %v: %s, %d, not %s, %d",
			len(b), b, w, shortly(d), code, shortly(model), want)
	}
}

// checkTakenAs asks that bytes tell just this datagram.
func checkTakenAs(t *testing.T, b []byte, w way, want impl.Datagram) {
	t.Helper()
	if got, code := impl.DecodeUdp(b, w.src, w.dst); !sameDatagram(got, want) || code != impl.OK {
		t.Errorf("DecodeUdp(%.60x, %v): %s, %d, not %s", b, w, shortly(got), code, shortly(want))
	}
}

func randomDatagram(chance *rand.Rand, n int) impl.Datagram {
	return impl.Datagram{SrcPort: chance.Int63n(65536), DstPort: chance.Int63n(65536), Data: randomBytes(chance, n)}
}

func randomWay(chance *rand.Rand) way {
	return way{chance.Int63n(lastAddr + 1), chance.Int63n(lastAddr + 1)}
}

// withUdpSum is a datagram with two bytes of data, by which its sum is the one asked for; it need not be written so.
func withUdpSum(d impl.Datagram, w way, sum int64) impl.Datagram {
	d.Data = []byte{0, 0}
	lacks := (numberOf(plainUdp(d, w), 6, 2) - sum + 65535) % 65535
	binary.BigEndian.PutUint16(d.Data, uint16(lacks))
	return d
}

// someDatagrams are valid: ports and addresses at both ends, data of no bytes, of odd and even numbers, and of the most.
func someDatagrams() []sentUdp {
	chance := newChance()
	var list []sentUdp
	for _, w := range someWays() {
		for _, port := range []int64{0, 1, 255, 256, 65534, 65535} {
			for _, n := range []int{0, 1, 2} {
				list = append(list,
					sentUdp{impl.Datagram{SrcPort: port, Data: randomBytes(chance, n)}, w},
					sentUdp{impl.Datagram{DstPort: port, Data: randomBytes(chance, n)}, w},
					sentUdp{impl.Datagram{SrcPort: port, DstPort: port, Data: bytes.Repeat([]byte{255}, n)}, w})
			}
		}
		for _, sum := range []int64{0, 1, 2, 255, 256, 32768, 65534} {
			list = append(list, sentUdp{withUdpSum(impl.Datagram{SrcPort: 7, DstPort: 9}, w, sum), w})
		}
	}
	for n := range 300 {
		list = append(list, sentUdp{randomDatagram(chance, n), randomWay(chance)})
	}
	full := bytes.Repeat([]byte{255}, mostUdpData)
	for _, n := range []int{mostUdpData - 1, mostUdpData} {
		list = append(list,
			sentUdp{impl.Datagram{Data: make([]byte, n)}, way{}},
			sentUdp{impl.Datagram{SrcPort: 65535, DstPort: 65535, Data: full[:n]}, way{lastAddr, lastAddr}},
			sentUdp{randomDatagram(chance, n), randomWay(chance)})
	}
	return list
}

func TestDatagramBytes(t *testing.T) {
	w := way{0x01020304, 0x05060708}
	d := impl.Datagram{SrcPort: 0x090A, DstPort: 0x0B0C, Data: []byte{13, 14, 15}}
	// 0102 + 0304 + 0506 + 0708 + 17 + 11, and 090A + 0B0C + 11 + 0D0E + 0F00: 405F with the bits not turned yet.
	want := []byte{9, 10, 11, 12, 0, 11, 0xBF, 0xA0, 13, 14, 15}
	if b, code := impl.EncodeUdp(d, w.src, w.dst); !bytes.Equal(b, want) || code != impl.OK {
		t.Errorf("EncodeUdp(%v, %v): %x, %d, not %x", d, w, b, code, want)
	}
	checkTakenAs(t, want, w, d)
	for _, s := range someDatagrams() {
		checkEncodeUdp(t, s.Datagram, s.way, impl.OK)
	}
}

// P6: valid datagrams come back from their bytes.
func TestDatagramsComeBack(t *testing.T) {
	for _, s := range someDatagrams() {
		b, code := impl.EncodeUdp(s.Datagram, s.src, s.dst)
		if code != impl.OK || len(b) != shortestUdp+len(s.Data) || numberOf(b, 4, 2) != int64(len(b)) {
			t.Fatalf("EncodeUdp(%s): %.60x, %d", shortly(s), b, code)
		}
		checkTakenAs(t, b, s.way, s.Datagram)
		checkTakenAs(t, plainUdp(s.Datagram, s.way), s.way, s.Datagram)
	}
}

func TestEncodeUdpAsksItsPorts(t *testing.T) {
	for _, n := range append(edgeNumbers(), 1, 53, 65534) {
		want := codeFor(n >= 0 && n <= 65535)
		for _, other := range []int64{0, 1, 65535} {
			for _, w := range someWays() {
				checkEncodeUdp(t, impl.Datagram{SrcPort: n, DstPort: other}, w, want)
				checkEncodeUdp(t, impl.Datagram{SrcPort: other, DstPort: n, Data: []byte{1}}, w, want)
			}
		}
		checkEncodeUdp(t, impl.Datagram{SrcPort: n, DstPort: n}, someWay(), want)
	}
}

func TestEncodeUdpAsksItsAddresses(t *testing.T) {
	for _, n := range append(edgeNumbers(), addrsOfEachKind()...) {
		want := codeFor(n >= 0 && n <= lastAddr)
		for _, port := range []int64{0, 65535} {
			d := impl.Datagram{SrcPort: port, DstPort: port, Data: []byte{1, 2}}
			for _, other := range []int64{0, near, lastAddr} {
				checkEncodeUdp(t, d, way{n, other}, want)
				checkEncodeUdp(t, d, way{other, n}, want)
			}
			checkEncodeUdp(t, d, way{n, n}, want)
		}
	}
}

// An ill port or address is told ahead of too many bytes.
func TestEncodeUdpBoundsTheData(t *testing.T) {
	room := make([]byte, 1<<20)
	for _, n := range []int{0, 1, mostUdpData - 1, mostUdpData, mostUdpData + 1, mostUdpData + 2, longestUdp, 65527, 65528, 65535, 65536, 1 << 20} {
		want := int64(impl.OK)
		if n > mostUdpData {
			want = impl.ErrSize
		}
		for _, w := range someWays() {
			checkEncodeUdp(t, impl.Datagram{Data: room[:n]}, w, want)
			checkEncodeUdp(t, impl.Datagram{SrcPort: 65535, DstPort: 65535, Data: room[:n]}, w, want)
		}
		for _, w := range illWays() {
			checkEncodeUdp(t, impl.Datagram{Data: room[:n]}, w, impl.ErrForm)
			checkEncodeUdp(t, impl.Datagram{SrcPort: -1, DstPort: 65536, Data: room[:n]}, w, impl.ErrForm)
		}
		for _, port := range []int64{-1, 65536, math.MinInt64, math.MaxInt64} {
			checkEncodeUdp(t, impl.Datagram{SrcPort: port, Data: room[:n]}, someWay(), impl.ErrForm)
			checkEncodeUdp(t, impl.Datagram{DstPort: port, Data: room[:n]}, someWay(), impl.ErrForm)
		}
	}
}

// A sum that is 0 is written as 65535, no other one is.
func TestNoughtSumIsWrittenAs65535(t *testing.T) {
	for _, w := range someWays() {
		for _, sum := range []int64{0, 1, 2, 32768, 65533, 65534} {
			d := withUdpSum(impl.Datagram{SrcPort: 1000, DstPort: 53}, w, sum)
			b, code := impl.EncodeUdp(d, w.src, w.dst)
			want := sum
			if sum == 0 {
				want = 65535
			}
			if code != impl.OK || numberOf(b, 6, 2) != want {
				t.Errorf("EncodeUdp(%v, %v): %x, %d, not with the sum %d", d, w, b, code, want)
			}
			checkTakenAs(t, b, w, d)
		}
	}
}

// The sum counts a last byte that stands alone as if a byte 0 stood behind it, and the length is in it twice.
func TestDatagramSumOfOddBytes(t *testing.T) {
	for _, n := range []int{1, 3, 5, 101, mostUdpData} {
		d := impl.Datagram{Data: make([]byte, n)}
		d.Data[n-1] = 2
		b, _ := impl.EncodeUdp(d, 0, 0)
		sum := 17 + 2*int64(n+shortestUdp) + 2*256
		if want := 65535 - sum%65535; numberOf(b, 6, 2) != want {
			t.Errorf("EncodeUdp of %d bytes: %.60x, not with the sum %d", n, b, want)
		}
	}
}

// A sum that is written as 0 is not looked at, whatever else stands there; all else is.
func TestDatagramWithoutASum(t *testing.T) {
	chance := newChance()
	for n := range 40 {
		b := randomBytes(chance, shortestUdp+n)
		binary.BigEndian.PutUint16(b[4:], uint16(len(b)))
		b[6], b[7] = 0, 0
		for _, w := range append(someWays(), randomWay(chance)) {
			checkTakenAs(t, b, w, impl.Datagram{SrcPort: numberOf(b, 0, 2), DstPort: numberOf(b, 2, 2), Data: b[8:]})
		}
		for _, w := range illWays() {
			checkDecodeUdp(t, b, w, impl.ErrForm)
		}
		for length := range 200 {
			want := int64(impl.ErrLength)
			if length == len(b) {
				want = impl.OK
			}
			binary.BigEndian.PutUint16(b[4:], uint16(length))
			checkDecodeUdp(t, b, someWay(), want)
		}
	}
	checkDecodeUdp(t, make([]byte, shortestUdp), someWay(), impl.ErrLength)
}

// Addresses are asked for ahead of all else.
func TestDecodeUdpAsksItsAddresses(t *testing.T) {
	right := plainUdp(impl.Datagram{SrcPort: 1, DstPort: 2, Data: []byte{3}}, someWay())
	for _, w := range illWays() {
		checkDecodeUdp(t, nil, w, impl.ErrForm)
		for n := range len(right) + 1 {
			checkDecodeUdp(t, right[:n], w, impl.ErrForm)
			checkDecodeUdp(t, make([]byte, n), w, impl.ErrForm)
		}
		checkDecodeUdp(t, make([]byte, 1<<17), w, impl.ErrForm)
	}
	for _, n := range append(edgeNumbers(), addrsOfEachKind()...) {
		want := codeFor(n >= 0 && n <= lastAddr)
		for _, other := range []int64{0, near, lastAddr} {
			d := impl.Datagram{SrcPort: 65535, DstPort: 65535, Data: []byte{9, 8, 7}}
			checkDecodeUdp(t, plainUdp(d, way{n, other}), way{n, other}, want)
			checkDecodeUdp(t, plainUdp(d, way{other, n}), way{other, n}, want)
		}
	}
}

// Fewer bytes than a head are too few, whatever they say.
func TestDecodeUdpAsksForEightBytes(t *testing.T) {
	right := plainUdp(impl.Datagram{SrcPort: 5, DstPort: 6}, someWay())
	checkDecodeUdp(t, nil, someWay(), impl.ErrShort)
	for n := range shortestUdp {
		checkDecodeUdp(t, right[:n], someWay(), impl.ErrShort)
		checkDecodeUdp(t, make([]byte, n), someWay(), impl.ErrShort)
		b := bytes.Repeat([]byte{255}, n)
		if n >= 6 {
			b[4], b[5] = 0, byte(n)
		}
		checkDecodeUdp(t, b, someWay(), impl.ErrShort)
	}
	checkDecodeUdp(t, right, someWay(), impl.OK)
}

// The length must be the number of bytes, even where the sum would be right; it is told ahead of a wrong sum.
func TestDecodeUdpAsksTheLength(t *testing.T) {
	for _, n := range []int{0, 1, 2, 3, 20, 300} {
		b := plainUdp(randomDatagram(newChance(), n), someWay())
		for length := range 65536 {
			want := int64(impl.ErrLength)
			if length == len(b) {
				want = impl.OK
			}
			binary.BigEndian.PutUint16(b[4:], uint16(length))
			checkDecodeUdp(t, b, someWay(), want)
		}
		for _, length := range []int{0, 1, 7, len(b) - 1, len(b) + 1, 65535} {
			binary.BigEndian.PutUint16(b[4:], uint16(length))
			checkDecodeUdp(t, resumUdp(b, someWay()), someWay(), impl.ErrLength)
		}
	}
}

// One byte more or less than the length tells.
func TestDecodeUdpOfCutBytes(t *testing.T) {
	for _, n := range []int{1, 2, 9, 100, mostUdpData} {
		b := plainUdp(randomDatagram(newChance(), n), someWay())
		checkDecodeUdp(t, b[:len(b)-1], someWay(), impl.ErrLength)
		checkDecodeUdp(t, append(bytes.Clone(b), 0), someWay(), impl.ErrLength)
		checkDecodeUdp(t, append(bytes.Clone(b), 0, 0), someWay(), impl.ErrLength)
	}
}

// DecodeUdp bounds its bytes by their length alone: it takes more than EncodeUdp writes, up to what two bytes can tell.
func TestDecodeUdpOfTheLongest(t *testing.T) {
	for _, n := range []int{longestUdp - 1, longestUdp, longestUdp + 1, 65534, 65535, 65536, 65536 + 8, 1 << 17} {
		want, wrong := int64(impl.OK), int64(impl.ErrSum)
		if n > 65535 {
			want, wrong = impl.ErrLength, impl.ErrLength
		}
		b := randomBytes(newChance(), n)
		binary.BigEndian.PutUint16(b[4:], uint16(n))
		checkDecodeUdp(t, resumUdp(b, someWay()), someWay(), want)
		b[n-1] ^= 128
		checkDecodeUdp(t, b, someWay(), wrong)
		b[6], b[7] = 0, 0
		checkDecodeUdp(t, b, someWay(), want)
	}
}

// Of all sums that a datagram may have one is right, and 0 beside it.
func TestDecodeUdpAsksTheSum(t *testing.T) {
	for _, d := range []impl.Datagram{
		{}, {SrcPort: 1, DstPort: 2, Data: []byte{3}}, withUdpSum(impl.Datagram{DstPort: 9}, someWay(), 0),
		withUdpSum(impl.Datagram{DstPort: 9}, someWay(), 1), randomDatagram(newChance(), 33),
	} {
		b := plainUdp(d, someWay())
		right := binary.BigEndian.Uint16(b[6:])
		for sum := range 65536 {
			want := int64(impl.ErrSum)
			if sum == int(right) || sum == 0 {
				want = impl.OK
			}
			binary.BigEndian.PutUint16(b[6:], uint16(sum))
			checkDecodeUdp(t, b, someWay(), want)
		}
	}
}

// The sum is bound to the addresses, but not to which of them is which.
func TestDatagramForAnother(t *testing.T) {
	chance := newChance()
	for _, n := range []int{0, 1, 2, 50} {
		for _, w := range append(someWays(), randomWay(chance), randomWay(chance)) {
			b := plainUdp(randomDatagram(chance, n), w)
			checkDecodeUdp(t, b, w, impl.OK)
			checkDecodeUdp(t, b, way{w.dst, w.src}, impl.OK)
			for bit := range 32 {
				checkDecodeUdp(t, b, way{w.src ^ 1<<bit, w.dst}, impl.ErrSum)
				checkDecodeUdp(t, b, way{w.src, w.dst ^ 1<<bit}, impl.ErrSum)
			}
		}
	}
	b := plainUdp(impl.Datagram{SrcPort: 1, DstPort: 2}, someWay())
	checkDecodeUdp(t, b, way{ownAddr, near + 1}, impl.ErrSum)
	checkDecodeUdp(t, b, way{ownAddr + 1, near}, impl.ErrSum)
	checkDecodeUdp(t, b, way{near, ownAddr + 1}, impl.ErrSum)
}

// The sum is bound to the protocol, too.
func TestDatagramSumOfAnotherProtocol(t *testing.T) {
	d := impl.Datagram{SrcPort: 1, DstPort: 2, Data: []byte{3, 4}}
	for proto := range 256 {
		b := plainUdp(d, someWay())
		b[6], b[7] = 0, 0
		binary.BigEndian.PutUint16(b[6:], uint16(plainFalseSum(someWay(), byte(proto), b)))
		want := int64(impl.ErrSum)
		if proto == impl.ProtoUdp {
			want = impl.OK
		}
		checkDecodeUdp(t, b, someWay(), want)
	}
}

// checkNoOther asks that a datagram's bytes with one bit turned are refused or tell the same datagram, and answers
// whether they are taken.
func checkNoOther(t *testing.T, b []byte, bit int, s sentUdp) bool {
	t.Helper()
	turnBit(b, bit)
	defer turnBit(b, bit)
	got, code := impl.DecodeUdp(b, s.src, s.dst)
	if code == impl.OK && !sameDatagram(got, s.Datagram) || code != impl.OK && !sameDatagram(got, impl.Datagram{}) {
		t.Errorf("bit %d of %s turned: %s, %d", bit, shortly(s), shortly(got), code)
	}
	checkDecodeUdp(t, b, s.way, code)
	return code == impl.OK
}

// P8: one bit turned never makes another datagram of one.
func TestTurnedBitsMakeNoOtherDatagram(t *testing.T) {
	chance := newChance()
	for _, s := range someDatagrams() {
		b, _ := impl.EncodeUdp(s.Datagram, s.src, s.dst)
		if len(b) > 400 {
			for range 20 {
				checkNoOther(t, b, chance.Intn(8*len(b)), s)
			}
			continue
		}
		for bit := range 8 * len(b) {
			checkNoOther(t, b, bit, s)
		}
	}
}

// P8: a sum whose one bit is turned is none, and the datagram stays; turned elsewhere all bits tell.
func TestTurnedBitThatLeavesNoSum(t *testing.T) {
	for one := range 16 {
		s := sentUdp{withUdpSum(impl.Datagram{SrcPort: 53, DstPort: 1000}, someWay(), 1<<one), someWay()}
		b, _ := impl.EncodeUdp(s.Datagram, s.src, s.dst)
		if numberOf(b, 6, 2) != 1<<one {
			t.Fatalf("EncodeUdp(%v): %x", s, b)
		}
		for bit := range 8 * len(b) {
			turned := bytes.Clone(b)
			turnBit(turned, bit)
			leavesNone := turned[6] == 0 && turned[7] == 0
			if taken := checkNoOther(t, b, bit, s); taken != leavesNone {
				t.Errorf("bit %d of %x turned: taken %v", bit, b, taken)
			}
		}
	}
}

// P8: bits of a sum that is written as 65535 for 0 tell, too.
func TestTurnedBitsOfANoughtSum(t *testing.T) {
	for _, w := range someWays() {
		s := sentUdp{withUdpSum(impl.Datagram{SrcPort: 9, DstPort: 65535}, w, 0), w}
		b, _ := impl.EncodeUdp(s.Datagram, w.src, w.dst)
		for bit := range 8 * len(b) {
			if checkNoOther(t, b, bit, s) {
				t.Errorf("bit %d of %x turned is taken", bit, b)
			}
		}
	}
}

// likelyUdp are bytes most of which are taken: a length that fits, a right sum or none.
func likelyUdp(chance *rand.Rand, w way) []byte {
	b := randomBytes(chance, chance.Intn(40))
	if len(b) < shortestUdp {
		return b
	}
	if chance.Intn(10) > 0 {
		binary.BigEndian.PutUint16(b[4:], uint16(len(b)))
	}
	switch chance.Intn(10) {
	case 0:
	case 1, 2, 3:
		b[6], b[7] = 0, 0
	default:
		resumUdp(b, w)
	}
	return b
}

// P7: bytes that DecodeUdp takes tell a datagram whose own bytes are taken as the same.
func TestTakenBytesTellADatagram(t *testing.T) {
	chance := newChance()
	told := map[int64]int{}
	for range 30000 {
		w := randomWay(chance)
		b := likelyUdp(chance, w)
		if chance.Intn(20) == 0 {
			w = illWays()[chance.Intn(len(illWays()))]
		}
		d, code := impl.DecodeUdp(b, w.src, w.dst)
		told[code]++
		checkDecodeUdp(t, b, w, code)
		if code != impl.OK {
			continue
		}
		own, code := impl.EncodeUdp(d, w.src, w.dst)
		if code != impl.OK {
			t.Fatalf("EncodeUdp(%v), told by %x: %d", d, b, code)
		}
		checkTakenAs(t, own, w, d)
		if numberOf(b, 6, 2) != 0 && !bytes.Equal(own, b) {
			t.Fatalf("%x tell %v, whose own bytes are %x", b, d, own)
		}
	}
	for _, code := range []int64{impl.OK, impl.ErrForm, impl.ErrShort, impl.ErrLength, impl.ErrSum} {
		if told[code] < 100 {
			t.Errorf("code %d comes %d times", code, told[code])
		}
	}
}

// P7: up to the longest that EncodeUdp writes, with a sum and without.
func TestTakenBytesOfTheLongest(t *testing.T) {
	for _, n := range []int{longestUdp - 1, longestUdp} {
		for _, summed := range []bool{true, false} {
			b := randomBytes(newChance(), n)
			binary.BigEndian.PutUint16(b[4:], uint16(n))
			resumUdp(b, someWay())
			if !summed {
				b[6], b[7] = 0, 0
			}
			d, code := impl.DecodeUdp(b, ownAddr, near)
			own, ownCode := impl.EncodeUdp(d, ownAddr, near)
			if code != impl.OK || ownCode != impl.OK || summed && !bytes.Equal(own, b) {
				t.Errorf("%d bytes: %d, their own: %d", n, code, ownCode)
			}
			checkTakenAs(t, own, someWay(), d)
		}
	}
}

func TestFalseHead(t *testing.T) {
	for _, c := range []struct {
		src, dst, proto, length int64
		want                    []byte
	}{
		{0x01020304, 0x05060708, 9, 0x0A0B, []byte{1, 2, 3, 4, 5, 6, 7, 8, 0, 9, 10, 11}},
		{0, 0, 0, 0, make([]byte, falseHeadLen)},
		{lastAddr, lastAddr, 255, 65535, []byte{255, 255, 255, 255, 255, 255, 255, 255, 0, 255, 255, 255}},
		{lastAddr + 1, lastAddr + 1, 256, 65536, make([]byte, falseHeadLen)},
		{lastAddr + 2, 1<<40 + 2, 256 + 3, 1<<20 + 4, []byte{0, 0, 0, 1, 0, 0, 0, 2, 0, 3, 0, 4}},
		{-1, -1, -1, -1, []byte{255, 255, 255, 255, 255, 255, 255, 255, 0, 255, 255, 255}},
		{-2, -256, -17, -65535, []byte{255, 255, 255, 254, 255, 255, 255, 0, 0, 239, 0, 1}},
		{math.MinInt64, math.MaxInt64, math.MinInt64 + 6, math.MaxInt64, []byte{0, 0, 0, 0, 255, 255, 255, 255, 0, 6, 255, 255}},
	} {
		if got := impl.FalseHead(c.src, c.dst, c.proto, c.length); !bytes.Equal(got, c.want) {
			t.Errorf("FalseHead(%d, %d, %d, %d): %x, not %x", c.src, c.dst, c.proto, c.length, got, c.want)
		}
	}
}

// Of each argument the low bits count, whatever the others are.
func TestFalseHeadTakesLowBits(t *testing.T) {
	numbers := append(edgeNumbers(), 6, 17, ownAddr, near)
	for _, n := range numbers {
		for _, other := range []int64{0, -1, 0x0102030405060708} {
			for _, c := range [][4]int64{
				{n, other, other, other}, {other, n, other, other}, {other, other, n, other}, {other, other, other, n}, {n, n, n, n},
			} {
				want := plainFalseHead(way{c[0], c[1]}, byte(c[2]), int(c[3]))
				if got := impl.FalseHead(c[0], c[1], c[2], c[3]); !bytes.Equal(got, want) {
					t.Errorf("FalseHead%v: %x, not %x", c, got, want)
				}
			}
		}
	}
}

// P51: whatever it is given a call ends, and answers the same again.
func TestDatagramsAnswerTheSameAgain(t *testing.T) {
	chance := newChance()
	numbers := append(edgeNumbers(), 1, 17, 53, ownAddr, near)
	pick := func() int64 { return numbers[chance.Intn(len(numbers))] }
	for range 5000 {
		d := impl.Datagram{SrcPort: pick(), DstPort: pick(), Data: randomBytes(chance, chance.Intn(50))}
		w := way{pick(), pick()}
		if chance.Intn(2) == 1 {
			d, w = randomDatagram(chance, chance.Intn(50)), randomWay(chance)
		}
		first, code := impl.EncodeUdp(d, w.src, w.dst)
		again, codeAgain := impl.EncodeUdp(d, w.src, w.dst)
		if !bytes.Equal(first, again) || code != codeAgain {
			t.Errorf("EncodeUdp(%v, %v): %x, %d, then %x, %d", d, w, first, code, again, codeAgain)
		}
		checkEncodeUdp(t, d, w, code)
		b := likelyUdp(chance, w)
		_, code = impl.DecodeUdp(b, w.src, w.dst)
		checkDecodeUdp(t, b, w, code)
		checkDecodeUdp(t, bytes.Clone(b), w, code)
		head := impl.FalseHead(w.src, w.dst, d.SrcPort, d.DstPort)
		if again := impl.FalseHead(w.src, w.dst, d.SrcPort, d.DstPort); !bytes.Equal(head, again) || len(head) != falseHeadLen {
			t.Errorf("FalseHead(%v, %v): %x, then %x", w, d, head, again)
		}
	}
}

// P51: the data stay as they are, the room behind them too, and are not what the bytes stand in.
func TestEncodeUdpLeavesItsData(t *testing.T) {
	for _, n := range []int{0, 1, 2, 100, 101, mostUdpData, mostUdpData + 1} {
		for _, port := range []int64{7, -1} {
			room := randomBytes(newChance(), n+40)
			d := impl.Datagram{SrcPort: port, Data: room[20 : 20+n]}
			checkWritesApart(t, room, func() ([]byte, int64) { return impl.EncodeUdp(d, ownAddr, near) })
		}
	}
}

// P51: the bytes that are read stay as they are, the room behind them too; the data stand apart from them.
func TestDecodeUdpLeavesItsBytes(t *testing.T) {
	read := func(b []byte) (impl.Datagram, int64) { return impl.DecodeUdp(b, ownAddr, near) }
	for _, n := range []int{0, 1, 2, 100, mostUdpData} {
		d := randomDatagram(newChance(), n)
		checkReadsApart(t, plainUdp(d, someWay()), read, sameDatagram, d, func(d impl.Datagram) []byte { return d.Data })
	}
}

// P51: bytes that are refused stay as they are, too.
func TestDecodeUdpLeavesWhatItRefuses(t *testing.T) {
	right := plainUdp(impl.Datagram{SrcPort: 1, DstPort: 2, Data: []byte{3, 4, 5}}, someWay())
	for n := range len(right) + 1 {
		room := append(bytes.Clone(right), bytes.Repeat([]byte{7}, 20)...)
		room[7] ^= 1
		kept := bytes.Clone(room)
		for _, w := range append(illWays(), someWays()...) {
			if d, code := impl.DecodeUdp(room[:n], w.src, w.dst); code == impl.OK || !sameDatagram(d, impl.Datagram{}) {
				t.Errorf("DecodeUdp(%x, %v): %v, %d", room[:n], w, d, code)
			}
		}
		if !bytes.Equal(room, kept) {
			t.Errorf("DecodeUdp of %d bytes changes them: %x, not %x", n, room, kept)
		}
	}
}

// P51: every false head is new memory.
func TestFalseHeadsShareNoMemory(t *testing.T) {
	first := impl.FalseHead(ownAddr, near, impl.ProtoUdp, shortestUdp)
	told := bytes.Clone(first)
	spoil(impl.FalseHead(ownAddr, near, impl.ProtoUdp, shortestUdp), 99)
	impl.FalseHead(1, 2, 3, 4)
	if !bytes.Equal(first, told) {
		t.Errorf("a false head has become %x, from %x", first, told)
	}
}
