package impl

// Codes, see chapter 1.
const (
	OK         = 0
	ErrForm    = 1
	ErrShort   = 2
	ErrSum     = 3
	ErrVersion = 4
	ErrLength  = 5
	ErrText    = 6
	ErrSize    = 7
	ErrCount   = 8
	ErrType    = 9
	ErrOption  = 10
	ErrRoute   = 11
	ErrPort    = 12
	ErrState   = 13
	ErrReset   = 14
	ErrTimeout = 15
	ErrRefused = 16
	ErrClosed  = 17
	ErrFull    = 18
	ErrSyntax  = 19
	ErrName    = 20
	ErrWait    = 21
)

// Limits of all chapters, see chapter 1.
const (
	MaxTime = 1000000000
	MaxOps  = 2000
)

// crcPolynomial is the remainder's divisor with its bits in turned order, as the shift to the right needs it.
const crcPolynomial = 0xEDB88320

func isTime(ms int64) bool { return ms >= 0 && ms <= MaxTime }

// mayPass tells whether a wait from now on is valid. Not by the sum: that of now and a great wait has no room in a number.
func mayPass(now, wait int64) bool { return wait >= 0 && wait <= MaxTime-now }

// outsOf is what a run tells: one entry for each of its operations, in order.
func outsOf[Op, Out any](ops []Op, do func(Op) Out) []Out {
	outs := make([]Out, 0, len(ops))
	for _, op := range ops {
		outs = append(outs, do(op))
	}
	return outs
}

// Checksum is the sum of numbers of two bytes, see chapter 2.
func Checksum(b []byte) int64 { return checksumOf(b) }

// checksumOf is the Checksum of parts that stand one behind the other, without putting them together. A part may end
// in the middle of a number, whose low byte is then the next part's first.
func checksumOf(parts ...[]byte) int64 {
	var sum uint64
	shift := 8
	for _, part := range parts {
		for _, x := range part {
			sum += uint64(x) << shift
			shift = 8 - shift
		}
	}
	return foldAndTurn(sum)
}

// ChecksumPatch is a checksum with one number replaced, see chapter 2.
func ChecksumPatch(sum, old, new int64) int64 {
	return foldAndTurn(uint64(^uint16(sum)) + uint64(^uint16(old)) + uint64(uint16(new)))
}

// foldAndTurn loops because adding the carries may carry once more.
func foldAndTurn(sum uint64) int64 {
	for sum > 0xFFFF {
		sum = sum>>16 + sum&0xFFFF
	}
	return int64(^uint16(sum))
}

// Crc32 is a remainder of 32 bits, see chapter 2.
func Crc32(b []byte) int64 {
	rest := ^uint32(0)
	for _, x := range b {
		rest ^= uint32(x)
		for range 8 {
			fallen := rest & 1
			rest >>= 1
			if fallen == 1 {
				rest ^= crcPolynomial
			}
		}
	}
	return int64(^rest)
}

// SeqAdd is a sequence number further on, see chapter 2.
func SeqAdd(a, n int64) int64 { return int64(uint32(a) + uint32(n)) }

// SeqDiff is how far one sequence number is from another, see chapter 2.
func SeqDiff(a, b int64) int64 { return int64(int32(uint32(b) - uint32(a))) }

// SeqLess tells whether one comes before another, see chapter 2.
func SeqLess(a, b int64) bool { return SeqDiff(a, b) > 0 }

// SeqLeq tells whether one comes not behind another, see chapter 2.
func SeqLeq(a, b int64) bool { return SeqDiff(a, b) >= 0 }

// InWindow tells whether one is within a window, see chapter 2.
func InWindow(seq, from, size int64) bool {
	return int64(uint32(seq)-uint32(from)) < size
}
