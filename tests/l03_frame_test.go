package tests

import (
	"bytes"
	"encoding/binary"
	"hash/crc32"
	"math"
	"math/rand"
	"testing"

	"loop.example/g00003/impl"
)

const (
	frameAround  = 18
	longestFrame = impl.MaxPayload + frameAround
)

// withSum is b with the sum of a frame behind it, by the library's own means.
func withSum(b []byte) []byte {
	return binary.LittleEndian.AppendUint32(bytes.Clone(b), crc32.ChecksumIEEE(b))
}

// plainFrame is a valid frame's bytes, written apart from the program.
func plainFrame(f impl.Frame) []byte {
	b := binary.BigEndian.AppendUint16(nil, uint16(f.Dst>>32))
	b = binary.BigEndian.AppendUint32(b, uint32(f.Dst))
	b = binary.BigEndian.AppendUint16(b, uint16(f.Src>>32))
	b = binary.BigEndian.AppendUint32(b, uint32(f.Src))
	b = binary.BigEndian.AppendUint16(b, uint16(f.Type))
	return withSum(append(b, f.Payload...))
}

func sameFrame(a, b impl.Frame) bool {
	return a.Dst == b.Dst && a.Src == b.Src && a.Type == b.Type && bytes.Equal(a.Payload, b.Payload)
}

func isNoFrame(f impl.Frame) bool { return sameFrame(f, impl.Frame{}) }

func randomFrame(chance *rand.Rand, payload int) impl.Frame {
	return impl.Frame{
		Dst: chance.Int63n(lastMac + 1), Src: chance.Int63n(lastMac + 1), Type: chance.Int63n(65536),
		Payload: randomBytes(chance, payload),
	}
}

// someFrames are valid: numbers at both ends of their ranges, payloads of few, of some and of most bytes.
func someFrames() []impl.Frame {
	chance := newChance()
	list := []impl.Frame{
		{},
		{Payload: []byte{}},
		{Dst: impl.MacAll, Src: impl.MacAll, Type: 65535, Payload: bytes.Repeat([]byte{255}, impl.MaxPayload)},
		{Payload: make([]byte, impl.MaxPayload)},
		{Dst: 0x010203040506, Src: 0x0708090A0B0C, Type: 0x0D0E, Payload: []byte{15, 16}},
	}
	for _, mac := range []int64{0, 1, 255, 256, 1 << 40, 1 << 47, impl.MacAll - 1, impl.MacAll} {
		list = append(list, impl.Frame{Dst: mac, Type: impl.FrameIP}, impl.Frame{Src: mac, Type: impl.FrameArp})
	}
	for _, kind := range []int64{0, 1, 255, 256, impl.FrameIP, impl.FrameArp, 65534, 65535} {
		list = append(list, impl.Frame{Dst: 3, Src: 4, Type: kind, Payload: []byte{0}})
	}
	for n := range 70 {
		list = append(list, randomFrame(chance, n))
	}
	for _, n := range []int{500, 1024, impl.MaxPayload - 1, impl.MaxPayload} {
		list = append(list, randomFrame(chance, n))
	}
	return list
}

func TestFrameBytes(t *testing.T) {
	f := impl.Frame{Dst: 0x010203040506, Src: 0x0708090A0B0C, Type: 0x0D0E, Payload: []byte("123")}
	b, code := impl.EncodeFrame(f)
	want := withSum([]byte{1, 2, 3, 4, 5, 6, 7, 8, 9, 10, 11, 12, 13, 14, '1', '2', '3'})
	if !bytes.Equal(b, want) || code != impl.OK {
		t.Errorf("EncodeFrame(%v): %x, %d, not %x", f, b, code, want)
	}
	for _, f := range someFrames() {
		if b, code := impl.EncodeFrame(f); !bytes.Equal(b, plainFrame(f)) || code != impl.OK {
			t.Errorf("EncodeFrame(%v): %x, %d, not %x", f, b, code, plainFrame(f))
		}
	}
}

func TestFrameSumHasItsLowByteFirst(t *testing.T) {
	for _, f := range someFrames() {
		b, _ := impl.EncodeFrame(f)
		ahead := len(b) - 4
		if ahead != 14+len(f.Payload) {
			t.Fatalf("EncodeFrame(%v) has %d bytes", f, len(b))
		}
		sum := impl.Crc32(b[:ahead])
		for i := range 4 {
			if b[ahead+i] != byte(sum>>(8*i)) {
				t.Errorf("the sum %x of %v stands as %x", sum, f, b[ahead:])
			}
		}
		turned := append(bytes.Clone(b[:ahead]), b[ahead+3], b[ahead+2], b[ahead+1], b[ahead])
		if got, code := impl.DecodeFrame(turned); !bytes.Equal(turned, b) && (code != impl.ErrSum || !isNoFrame(got)) {
			t.Errorf("DecodeFrame of %v with the sum's high byte first: %v, %d", f, got, code)
		}
	}
}

// P6: valid frames come back from their bytes.
func TestFramesComeBack(t *testing.T) {
	for _, f := range someFrames() {
		b, code := impl.EncodeFrame(f)
		if code != impl.OK {
			t.Errorf("EncodeFrame(%v): %d", f, code)
		}
		if got, code := impl.DecodeFrame(b); !sameFrame(got, f) || code != impl.OK {
			t.Errorf("DecodeFrame(%x): %v, %d, not %v", b, got, code, f)
		}
		if got, code := impl.DecodeFrame(plainFrame(f)); !sameFrame(got, f) || code != impl.OK {
			t.Errorf("DecodeFrame(%x): %v, %d, not %v", plainFrame(f), got, code, f)
		}
	}
}

// Whatever stands ahead of a right sum is a frame, whose bytes are the same again.
func TestBytesWithTheirSumAreAFrame(t *testing.T) {
	chance := newChance()
	for n := frameAround; n <= longestFrame; n += 1 + n/20 {
		b := withSum(randomBytes(chance, n-4))
		f, code := impl.DecodeFrame(b)
		if code != impl.OK || len(f.Payload) != n-frameAround {
			t.Fatalf("DecodeFrame of %d bytes: %v, %d", n, f, code)
		}
		if again, code := impl.EncodeFrame(f); !bytes.Equal(again, b) || code != impl.OK {
			t.Errorf("EncodeFrame(%v): %x, %d, not %x", f, again, code, b)
		}
	}
}

func TestEncodeFrameAsksItsNumbers(t *testing.T) {
	for _, n := range append(edgeNumbers(), impl.MacAll+1, -impl.MacAll) {
		isMac, isType := n >= 0 && n <= lastMac, n >= 0 && n <= 65535
		for _, c := range []struct {
			f     impl.Frame
			valid bool
		}{
			{impl.Frame{Dst: n, Src: 1, Type: impl.FrameIP, Payload: []byte{1}}, isMac},
			{impl.Frame{Dst: 1, Src: n, Type: impl.FrameIP, Payload: []byte{1}}, isMac},
			{impl.Frame{Dst: 1, Src: 1, Type: n, Payload: []byte{1}}, isType},
			{impl.Frame{Dst: n, Src: n, Type: n}, isType},
		} {
			b, code := impl.EncodeFrame(c.f)
			if c.valid && (code != impl.OK || !bytes.Equal(b, plainFrame(c.f))) {
				t.Errorf("EncodeFrame(%v): %x, %d", c.f, b, code)
			}
			if !c.valid && (code != impl.ErrForm || len(b) != 0) {
				t.Errorf("EncodeFrame(%v): %x, %d", c.f, b, code)
			}
		}
	}
}

func TestEncodeFrameBoundsThePayload(t *testing.T) {
	for n, want := range map[int]int64{
		0: impl.OK, 1: impl.OK, impl.MaxPayload - 1: impl.OK, impl.MaxPayload: impl.OK,
		impl.MaxPayload + 1: impl.ErrSize, longestFrame: impl.ErrSize, 65536: impl.ErrSize, 1 << 20: impl.ErrSize,
	} {
		b, code := impl.EncodeFrame(impl.Frame{Dst: impl.MacAll, Type: impl.FrameIP, Payload: make([]byte, n)})
		if code != want || want == impl.OK && len(b) != n+frameAround || want != impl.OK && len(b) != 0 {
			t.Errorf("EncodeFrame with %d bytes of payload: %d bytes, %d", n, len(b), code)
		}
	}
}

// An ill number is told ahead of a payload that is too long.
func TestEncodeFrameTellsTheFirstError(t *testing.T) {
	long := make([]byte, impl.MaxPayload+1)
	for _, f := range []impl.Frame{
		{Dst: -1, Payload: long}, {Src: -1, Payload: long}, {Type: -1, Payload: long},
		{Dst: impl.MacAll + 1, Payload: long}, {Src: impl.MacAll + 1, Payload: long}, {Type: 65536, Payload: long},
		{Dst: math.MinInt64, Src: math.MaxInt64, Type: math.MaxInt64, Payload: make([]byte, 1<<20)},
	} {
		if b, code := impl.EncodeFrame(f); code != impl.ErrForm || len(b) != 0 {
			t.Errorf("EncodeFrame of %d, %d, %d and %d bytes: %x, %d", f.Dst, f.Src, f.Type, len(f.Payload), b, code)
		}
	}
}

// A length that cannot be is told ahead of a wrong sum, and is told with a right one, too.
func TestDecodeFrameTellsTheFirstError(t *testing.T) {
	chance := newChance()
	for _, n := range []int{0, 1, 3, 4, 5, 13, 14, 16, 17, 18, 19, 100, longestFrame - 1, longestFrame, longestFrame + 1, 1600, 65536, 1 << 20} {
		right, wrong := int64(impl.OK), int64(impl.ErrSum)
		if n < frameAround {
			right, wrong = impl.ErrShort, impl.ErrShort
		} else if n > longestFrame {
			right, wrong = impl.ErrSize, impl.ErrSize
		}
		b := randomBytes(chance, n)
		if n >= 4 {
			b = withSum(b[:n-4])
			checkDecode(t, b, right)
			b[n-1] ^= 1
		}
		checkDecode(t, b, wrong)
		checkDecode(t, make([]byte, n), wrong)
	}
	checkDecode(t, nil, impl.ErrShort)
}

// checkDecode asks for the zero frame with every code that refuses.
func checkDecode(t *testing.T, b []byte, want int64) {
	t.Helper()
	f, code := impl.DecodeFrame(b)
	if code != want || code != impl.OK && !isNoFrame(f) {
		t.Errorf("DecodeFrame of %d bytes %.60x: %v, %d, not %d", len(b), b, f, code, want)
	}
}

func turnBit(b []byte, bit int) { b[bit/8] ^= 1 << (bit % 8) }

// P2: one bit turned anywhere, the sum's own bits among them, is a wrong sum.
func TestOneTurnedBitIsAWrongSum(t *testing.T) {
	for _, n := range []int{0, 1, 2, 46, impl.MaxPayload} {
		b := plainFrame(randomFrame(newChance(), n))
		for bit := range 8 * len(b) {
			turnBit(b, bit)
			if f, code := impl.DecodeFrame(b); code != impl.ErrSum || !isNoFrame(f) {
				t.Fatalf("a frame of %d bytes with bit %d turned: %v, %d", len(b), bit, f, code)
			}
			turnBit(b, bit)
		}
		checkDecode(t, b, impl.OK)
	}
}

// turnRun turns the bits of pattern, from the lowest on, from a place on.
func turnRun(b []byte, from, length int, pattern uint32) {
	for i := range length {
		if pattern>>i&1 == 1 {
			turnBit(b, from+i)
		}
	}
}

func checkRun(t *testing.T, b []byte, from, length int, pattern uint32) {
	t.Helper()
	turnRun(b, from, length, pattern)
	if f, code := impl.DecodeFrame(b); code != impl.ErrSum || !isNoFrame(f) {
		t.Fatalf("a frame of %d bytes with %0*b turned from bit %d on: %v, %d", len(b), length, pattern, from, f, code)
	}
	turnRun(b, from, length, pattern)
}

// P2: bits turned in one run of at most 32 are a wrong sum, wherever it begins, over the sum's seam too.
func TestATurnedRunIsAWrongSum(t *testing.T) {
	chance := newChance()
	for _, n := range []int{0, 1, 30} {
		b := plainFrame(randomFrame(chance, n))
		for length := 1; length <= 32; length++ {
			all := uint32(1<<length - 1)
			ends := uint32(1 | 1<<(length-1))
			for from := range 8*len(b) - length + 1 {
				checkRun(t, b, from, length, all)
				checkRun(t, b, from, length, ends)
				checkRun(t, b, from, length, chance.Uint32()&all|ends)
			}
		}
		checkDecode(t, b, impl.OK)
	}
	long := plainFrame(randomFrame(chance, impl.MaxPayload))
	for range 2000 {
		length := 1 + chance.Intn(32)
		pattern := chance.Uint32()&uint32(1<<length-1) | 1
		checkRun(t, long, chance.Intn(8*len(long)-length+1), length, pattern)
	}
}

// P2: the divisor itself is the shortest run that leaves the remainder as it is; it has 33 bits.
func TestARunOf33BitsMayPass(t *testing.T) {
	const divisor = 0xEDB88320<<1 | 1
	b := plainFrame(randomFrame(newChance(), 20))
	for i := range 33 {
		if divisor>>i&1 == 1 {
			turnBit(b, 50+i)
		}
	}
	checkDecode(t, b, impl.OK)
}

// Bytes that were frames, but for one that lacks, or one more, are none.
func TestCutFramesAreRefused(t *testing.T) {
	b := plainFrame(randomFrame(newChance(), 40))
	for n := range len(b) {
		want := int64(impl.ErrSum)
		if n < frameAround {
			want = impl.ErrShort
		}
		checkDecode(t, b[:n], want)
	}
	for x := range 256 {
		checkDecode(t, append(bytes.Clone(b), byte(x)), impl.ErrSum)
		checkDecode(t, append([]byte{byte(x)}, b...), impl.ErrSum)
	}
}

// P51: the payload that is written stays as it is, the room behind it too, and is not what the bytes stand in.
func TestEncodeFrameLeavesItsPayload(t *testing.T) {
	for _, n := range []int{0, 1, 20, impl.MaxPayload, impl.MaxPayload + 1} {
		room := randomBytes(newChance(), n+60)
		f := impl.Frame{Dst: 1, Src: 2, Type: 3, Payload: room[10 : 10+n]}
		checkWritesApart(t, room, func() ([]byte, int64) { return impl.EncodeFrame(f) })
	}
}

// P51: the bytes that are read stay as they are, the room behind them too, and the payload stands elsewhere.
func TestDecodeFrameLeavesItsBytes(t *testing.T) {
	for _, n := range []int{0, 1, 20, impl.MaxPayload} {
		f := randomFrame(newChance(), n)
		checkReadsApart(t, plainFrame(f), impl.DecodeFrame, sameFrame, f, func(f impl.Frame) []byte { return f.Payload })
	}
}

// P51: whatever bytes there are, they are answered, and answered the same again.
func TestDecodeFrameAnswersTheSameAgain(t *testing.T) {
	chance := newChance()
	for range 2000 {
		b := randomBytes(chance, chance.Intn(60))
		f, code := impl.DecodeFrame(b)
		again, codeAgain := impl.DecodeFrame(bytes.Clone(b))
		if !sameFrame(f, again) || code != codeAgain || code != impl.OK && !isNoFrame(f) {
			t.Errorf("DecodeFrame(%x): %v, %d, then %v, %d", b, f, code, again, codeAgain)
		}
	}
}
