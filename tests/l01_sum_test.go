package tests

import (
	"bytes"
	"hash/crc32"
	"math"
	"math/big"
	"testing"

	"loop.example/g00003/impl"
)

const seam = 1 << 32

// plainChecksum adds carry by carry, as the document tells it.
func plainChecksum(b []byte) int64 {
	var sum int64
	for i := 0; i < len(b); i += 2 {
		n := int64(b[i]) * 256
		if i+1 < len(b) {
			n += int64(b[i+1])
		}
		sum += n
		if sum > 65535 {
			sum = sum - 65536 + 1
		}
	}
	return 65535 - sum
}

// modSeam is n modulo 4294967296, reckoned without any wrap-round.
func modSeam(n *big.Int) int64 {
	return new(big.Int).Mod(n, big.NewInt(seam)).Int64()
}

func sameSum(a, b int64) bool { return a == b || a%65535 == 0 && b%65535 == 0 }

func TestChecksum(t *testing.T) {
	for _, c := range []struct {
		name string
		b    []byte
		want int64
	}{
		{"nil", nil, 65535},
		{"no bytes", []byte{}, 65535},
		{"noughts", make([]byte, 6), 65535},
		{"an odd last byte", []byte{1}, 0xFFFF - 0x0100},
		{"an odd last byte behind others", []byte{0x12, 0x34, 0x56}, 0xFFFF - 0x1234 - 0x5600},
		{"a sum of 65535", []byte{0xFF, 0xFF}, 0},
		{"one carry", []byte{0xFF, 0xFF, 0, 1}, 0xFFFE},
		{"a carry that carries again", []byte{0xFF, 0xFF, 0xFF, 0xFF, 0, 1}, 0xFFFE},
		{"an odd byte that carries", []byte{0xFF, 0xFF, 0xFF}, 0xFFFF - 0xFF00},
		{"a sum beyond 32 bits", bytes.Repeat([]byte{0xFF}, 2*65538), 0},
	} {
		if got := impl.Checksum(c.b); got != c.want {
			t.Errorf("Checksum of %s: %d, not %d", c.name, got, c.want)
		}
	}
	chance := newChance()
	for n := range 300 {
		b := randomBytes(chance, n)
		if got, want := impl.Checksum(b), plainChecksum(b); got != want {
			t.Fatalf("Checksum(%x): %d, not %d", b, got, want)
		}
	}
}

// P1: bytes with their own checksum behind them have the checksum 0.
func TestChecksumBehindItsBytes(t *testing.T) {
	chance := newChance()
	cases := [][]byte{nil, make([]byte, 20), bytes.Repeat([]byte{0xFF}, 20)}
	for n := range 200 {
		cases = append(cases, randomBytes(chance, 2*n))
	}
	for _, b := range cases {
		sum := impl.Checksum(b)
		if got := impl.Checksum(append(bytes.Clone(b), byte(sum>>8), byte(sum))); got != 0 {
			t.Errorf("bytes %x with %d behind them: %d", b, sum, got)
		}
	}
}

// P1: a patched checksum is that of the new bytes; 0 and 65535 count as one.
func TestChecksumPatchIsTheNewSum(t *testing.T) {
	chance := newChance()
	numbers := []int64{0, 1, 255, 256, 32767, 32768, 65534, 65535}
	for range 2000 {
		b := randomBytes(chance, 2*(1+chance.Intn(8)))
		if chance.Intn(4) == 0 {
			clear(b)
		}
		sum := impl.Checksum(b)
		i := 2 * chance.Intn(len(b)/2)
		old := int64(b[i])<<8 | int64(b[i+1])
		put := numbers[chance.Intn(len(numbers))]
		if chance.Intn(2) == 0 {
			put = int64(chance.Intn(65536))
		}
		patched := impl.ChecksumPatch(sum, old, put)
		b[i], b[i+1] = byte(put>>8), byte(put)
		if want := impl.Checksum(b); !sameSum(patched, want) {
			t.Fatalf("ChecksumPatch(%d, %d, %d): %d, not %d (bytes now %x)", sum, old, put, patched, want, b)
		}
	}
}

func TestChecksumPatchEdges(t *testing.T) {
	for _, c := range [][4]int64{
		{0x220d, 1, 3, 0x220b},
		{65535, 0, 0, 0}, // 0 and 65535 and 0 are 65535, turned 0: the other nought of the sum
		{0, 0, 0, 0},
		{0, 65535, 65535, 0},
		{0, 0, 65535, 0}, // carries twice
		{65535, 65535, 0, 65535},
		{65535, 0, 1, 65534},
		{1, 1, 0, 2},
	} {
		if got := impl.ChecksumPatch(c[0], c[1], c[2]); got != c[3] {
			t.Errorf("ChecksumPatch(%d, %d, %d): %d, not %d", c[0], c[1], c[2], got, c[3])
		}
	}
}

func TestChecksumPatchTakesLowBits(t *testing.T) {
	for _, a := range edgeNumbers() {
		for _, b := range edgeNumbers() {
			want := impl.ChecksumPatch(a&65535, b&65535, 7)
			if got := impl.ChecksumPatch(a, b, 7+65536); got != want {
				t.Errorf("ChecksumPatch(%d, %d, 65543): %d, not %d", a, b, got, want)
			}
			want = impl.ChecksumPatch(7, a&65535, b&65535)
			if got := impl.ChecksumPatch(7-65536, a, b); got != want {
				t.Errorf("ChecksumPatch(-65529, %d, %d): %d, not %d", a, b, got, want)
			}
		}
	}
}

func TestCrc32(t *testing.T) {
	if got := impl.Crc32([]byte("123456789")); got != 0xCBF43926 {
		t.Errorf("Crc32 of 123456789: %x", got)
	}
	if impl.Crc32(nil) != 0 || impl.Crc32([]byte{}) != 0 {
		t.Error("Crc32 of no bytes is not 0")
	}
	for x := range 256 {
		b := []byte{byte(x)}
		if got, want := impl.Crc32(b), int64(crc32.ChecksumIEEE(b)); got != want {
			t.Errorf("Crc32 of byte %d: %d, not %d", x, got, want)
		}
	}
	chance := newChance()
	for n := range 300 {
		b := randomBytes(chance, n)
		if got, want := impl.Crc32(b), int64(crc32.ChecksumIEEE(b)); got != want {
			t.Errorf("Crc32(%x): %d, not %d", b, got, want)
		}
	}
}

func sequenceNumbers() []int64 {
	chance := newChance()
	list := []int64{0, 1, 2, 2147483646, 2147483647, 2147483648, 2147483649, seam - 2, seam - 1}
	for range 30 {
		list = append(list, chance.Int63n(seam))
	}
	return list
}

func distances() []int64 {
	chance := newChance()
	list := []int64{-2147483648, -2147483647, -65536, -2, -1, 0, 1, 2, 65536, 2147483646, 2147483647}
	for range 50 {
		list = append(list, chance.Int63n(seam)-2147483648)
	}
	return list
}

// P3: the distance to a number further on is how far it was moved.
func TestSeqDiffOfSeqAdd(t *testing.T) {
	for _, a := range sequenceNumbers() {
		for _, d := range distances() {
			b := impl.SeqAdd(a, d)
			if want := modSeam(big.NewInt(a + d)); b != want {
				t.Fatalf("SeqAdd(%d, %d): %d, not %d", a, d, b, want)
			}
			if got := impl.SeqDiff(a, b); got != d {
				t.Fatalf("SeqDiff(%d, %d): %d, not %d", a, b, got, d)
			}
			if impl.SeqLess(a, b) != (d > 0) || impl.SeqLeq(a, b) != (d >= 0) {
				t.Fatalf("SeqLess, SeqLeq of %d, %d: %v, %v", a, b, impl.SeqLess(a, b), impl.SeqLeq(a, b))
			}
		}
	}
}

// P3: a window of size has just the numbers whose distance behind its beginning is less.
func TestInWindowAgrees(t *testing.T) {
	sizes := []int64{1, 2, 65535, 2147483647, 2147483648, 2147483649, seam - 1, seam}
	for _, from := range sequenceNumbers() {
		for _, d := range distances() {
			seq := impl.SeqAdd(from, d)
			ahead := impl.SeqDiff(from, seq)
			if ahead < 0 {
				ahead += seam
			}
			for _, size := range append(sizes, ahead, ahead+1) {
				if got := impl.InWindow(seq, from, size); got != (ahead < size) {
					t.Fatalf("InWindow(%d, %d, %d): %v", seq, from, size, got)
				}
			}
		}
	}
}

func TestInWindowSizes(t *testing.T) {
	for _, seq := range edgeNumbers() {
		for _, from := range edgeNumbers() {
			for _, size := range []int64{0, -1, -seam, math.MinInt64} {
				if impl.InWindow(seq, from, size) {
					t.Errorf("InWindow(%d, %d, %d)", seq, from, size)
				}
			}
			for _, size := range []int64{seam, seam + 1, math.MaxInt64} {
				if !impl.InWindow(seq, from, size) {
					t.Errorf("not InWindow(%d, %d, %d)", seq, from, size)
				}
			}
		}
	}
	if impl.InWindow(seam-1, 0, seam-1) || !impl.InWindow(seam-2, 0, seam-1) {
		t.Error("InWindow at the end of a window of 4294967295")
	}
}

func TestSequenceAtTheSeam(t *testing.T) {
	for _, c := range [][3]int64{
		{seam - 1, 0, 1}, {0, seam - 1, -1}, {seam - 1, seam - 1, 0}, {seam - 10, 10, 20},
		{0, 2147483648, -2147483648}, {2147483648, 0, -2147483648},
		{0, 2147483647, 2147483647}, {2147483647, 0, -2147483647}, {2147483649, 0, 2147483647},
	} {
		if got := impl.SeqDiff(c[0], c[1]); got != c[2] {
			t.Errorf("SeqDiff(%d, %d): %d, not %d", c[0], c[1], got, c[2])
		}
	}
	// Half way round neither comes before the other.
	if impl.SeqLess(0, 2147483648) || impl.SeqLess(2147483648, 0) || impl.SeqLeq(0, 2147483648) {
		t.Error("numbers half way round from each other")
	}
}

func TestSequenceArgumentsModuloSeam(t *testing.T) {
	for _, a := range edgeNumbers() {
		for _, b := range edgeNumbers() {
			x, y := modSeam(big.NewInt(a)), modSeam(big.NewInt(b))
			if got := impl.SeqAdd(a, b); got != (x+y)%seam {
				t.Errorf("SeqAdd(%d, %d): %d, not %d", a, b, got, (x+y)%seam)
			}
			d := (y - x + seam) % seam
			if impl.InWindow(b, a, d) || !impl.InWindow(b, a, d+1) {
				t.Errorf("InWindow of %d from %d on, sizes %d and %d", b, a, d, d+1)
			}
			if d > 2147483647 {
				d -= seam
			}
			if got := impl.SeqDiff(a, b); got != d {
				t.Errorf("SeqDiff(%d, %d): %d, not %d", a, b, got, d)
			}
			if impl.SeqLess(a, b) != (d > 0) || impl.SeqLeq(a, b) != (d >= 0) {
				t.Errorf("SeqLess, SeqLeq of %d, %d", a, b)
			}
		}
	}
}

// P51: sums write into nothing, not behind the end of their bytes either, and say the same again.
func TestSumsLeaveTheirBytes(t *testing.T) {
	for n := range 20 {
		room := randomBytes(newChance(), 40)
		kept := bytes.Clone(room)
		b := room[5 : 5+n]
		sum, rest := impl.Checksum(b), impl.Crc32(b)
		if !bytes.Equal(room, kept) {
			t.Errorf("bytes changed: %x, were %x", room, kept)
		}
		if impl.Checksum(b) != sum || impl.Crc32(b) != rest {
			t.Errorf("another answer the second time for %x", b)
		}
		if impl.Checksum(bytes.Clone(b)) != sum || impl.Crc32(bytes.Clone(b)) != rest {
			t.Errorf("the room behind %x counts", b)
		}
	}
}

// P51: no arguments, however far from what they stand for, lead out of an answer's range.
func TestSequenceAnswersStayInRange(t *testing.T) {
	for _, a := range edgeNumbers() {
		for _, b := range edgeNumbers() {
			if n := impl.SeqAdd(a, b); n < 0 || n >= seam || n != impl.SeqAdd(a, b) {
				t.Errorf("SeqAdd(%d, %d): %d", a, b, n)
			}
			if n := impl.SeqDiff(a, b); n < -2147483648 || n > 2147483647 || n != impl.SeqDiff(a, b) {
				t.Errorf("SeqDiff(%d, %d): %d", a, b, n)
			}
			if n := impl.ChecksumPatch(a, b, a); n < 0 || n > 65535 || n != impl.ChecksumPatch(a, b, a) {
				t.Errorf("ChecksumPatch(%d, %d, %d): %d", a, b, a, n)
			}
		}
	}
}
