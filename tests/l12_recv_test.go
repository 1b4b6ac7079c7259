package tests

import (
	"bytes"
	"math"
	"math/rand"
	"slices"
	"testing"

	"loop.example/g00003/impl"
)

const (
	mostPiece = 65535
	// halfway is as far as one sequence number can be from another.
	halfway = 1 << 31
	allSeqs = 1 << 32
)

func comes(seq int64, data string) impl.RecvOp {
	return impl.RecvOp{Kind: impl.RecvTake, Seq: seq, Data: []byte(data)}
}

func reads(n int64) impl.RecvOp { return impl.RecvOp{Kind: impl.RecvRead, N: n} }

// recvTold is what an operation tells that reads nothing; each stretch is written as "from-to".
func recvTold(next, room, unread, held int64, sacks ...string) impl.RecvOut {
	return impl.RecvOut{Next: next, Room: room, Unread: unread, Held: held, Sacks: stretches(sacks...)}
}

func recvRead(data string, out impl.RecvOut) impl.RecvOut {
	out.Data = []byte(data)
	return out
}

func recvRefused(out impl.RecvOut) impl.RecvOut {
	out.Code = impl.ErrForm
	return out
}

func sameRecvOut(a, b impl.RecvOut) bool {
	return a.Code == b.Code && bytes.Equal(a.Data, b.Data) && a.Next == b.Next && a.Room == b.Room &&
		a.Unread == b.Unread && a.Held == b.Held && slices.Equal(a.Sacks, b.Sacks)
}

func sameRecvOuts(a, b []impl.RecvOut) bool { return slices.EqualFunc(a, b, sameRecvOut) }

func receiving(next, size int64) func([]impl.RecvOp) ([]impl.RecvOut, int64) {
	return func(ops []impl.RecvOp) ([]impl.RecvOut, int64) {
		return impl.RunRecv(impl.RecvConfig{Next: next, Size: size}, ops)
	}
}

func runRecv(t *testing.T, next, size int64, ops ...impl.RecvOp) []impl.RecvOut {
	t.Helper()
	return runAll(t, receiving(next, size), ops)
}

type recvStep = step[impl.RecvOp, impl.RecvOut]

func checkRecv(t *testing.T, next, size int64, steps ...recvStep) {
	t.Helper()
	checkRunOf(t, receiving(next, size), sameRecvOut, steps)
}

// modelByte is a held byte, and the latest take that brought it or would have.
type modelByte struct {
	value byte
	take  int
}

// modelRecv has every byte on its own, by its sequence number.
type modelRecv struct {
	next, size int64
	takes      int
	unread     []byte
	held       map[int64]modelByte
}

func newModelRecv(next, size int64) *modelRecv {
	return &modelRecv{next: next, size: size, held: map[int64]modelByte{}}
}

// placeFrom is how far seq is from next, from -halfway to halfway - 1.
func placeFrom(next, seq int64) int64 {
	d := (seq - next + allSeqs) % allSeqs
	if d >= halfway {
		d -= allSeqs
	}
	return d
}

func (m *modelRecv) room() int64 { return m.size - int64(len(m.unread)) }

func (m *modelRecv) take(seq int64, data []byte) {
	m.takes++
	first, room := placeFrom(m.next, seq), m.room()
	for i, x := range data {
		if place := first + int64(i); place < 0 || place >= room {
			continue
		}
		at := (seq + int64(i)) % allSeqs
		if b, found := m.held[at]; found {
			x = b.value
		}
		m.held[at] = modelByte{x, m.takes}
	}
	for {
		b, found := m.held[m.next]
		if !found {
			return
		}
		delete(m.held, m.next)
		m.unread = append(m.unread, b.value)
		m.next = (m.next + 1) % allSeqs
	}
}

func (m *modelRecv) sacks() []impl.Stretch {
	var places []int64
	for seq := range m.held {
		places = append(places, placeFrom(m.next, seq))
	}
	slices.Sort(places)
	var list []impl.Stretch
	var takes []int
	for i, place := range places {
		seq := (m.next + place) % allSeqs
		if i == 0 || places[i-1] != place-1 {
			list, takes = append(list, impl.Stretch{From: seq}), append(takes, 0)
		}
		last := len(list) - 1
		list[last].To, takes[last] = (seq+1)%allSeqs, max(takes[last], m.held[seq].take)
	}
	var latest []impl.Stretch
	for take := m.takes; take > 0 && len(latest) < impl.MaxSacks; take-- {
		if at := slices.Index(takes, take); at >= 0 {
			latest = append(latest, list[at])
		}
	}
	return latest
}

func (m *modelRecv) do(op impl.RecvOp) impl.RecvOut {
	var out impl.RecvOut
	switch {
	case op.Kind == 1 && within(op.Seq, allSeqs-1) && len(op.Data) <= 65535:
		m.take(op.Seq, op.Data)
	case op.Kind == 2 && op.N >= 0:
		n := min(op.N, int64(len(m.unread)))
		out.Data, m.unread = bytes.Clone(m.unread[:n]), bytes.Clone(m.unread[n:])
	default:
		out.Code = impl.ErrForm
	}
	out.Next, out.Room = m.next, m.room()
	out.Unread, out.Held, out.Sacks = int64(len(m.unread)), int64(len(m.held)), m.sacks()
	return out
}

func checkRecvAsModel(t *testing.T, next, size int64, ops []impl.RecvOp) []impl.RecvOut {
	t.Helper()
	m := newModelRecv(next, size)
	outs := runRecv(t, next, size, ops...)
	for i, op := range ops {
		if want := m.do(op); !sameRecvOut(outs[i], want) {
			t.Fatalf("next %d, size %d, operation %d, %s: %s, not %s", next, size, i, shortly(op), shortly(outs[i]), shortly(want))
		}
	}
	return outs
}

// seams are where a stream may begin: far from the seam of sequence numbers, at it, and shortly ahead of it.
func seams() []int64 {
	return []int64{0, 1, 1000, halfway - 3, halfway, allSeqs - 70000, allSeqs - 12, allSeqs - 7, allSeqs - 2, allSeqs - 1}
}

// checkMoved asks for the same steps, told for a stream that begins at 0, from each of seams on.
func checkMoved(t *testing.T, size int64, steps ...recvStep) {
	t.Helper()
	for _, next := range seams() {
		moved := func(seq int64) int64 { return (seq + next) % allSeqs }
		list := slices.Clone(steps)
		for i, s := range list {
			if s.op.Kind == impl.RecvTake && within(s.op.Seq, allSeqs-1) {
				list[i].op.Seq = moved(s.op.Seq)
			}
			list[i].want.Next = moved(s.want.Next)
			list[i].want.Sacks = nil
			for _, sack := range s.want.Sacks {
				list[i].want.Sacks = append(list[i].want.Sacks, impl.Stretch{From: moved(sack.From), To: moved(sack.To)})
			}
		}
		checkRecv(t, next, size, list...)
		if t.Failed() {
			t.Fatalf("from %d on", next)
		}
	}
}

func checkRecvCode(t *testing.T, next, size int64, ops []impl.RecvOp, want int64) {
	t.Helper()
	outs, code := impl.RunRecv(impl.RecvConfig{Next: next, Size: size}, ops)
	n := 0
	if want == impl.OK {
		n = len(ops)
	}
	if code != want || len(outs) != n {
		t.Errorf("RunRecv of %d, %d and %d operations: %d answers, %d, not %d, %d", next, size, len(ops), len(outs), code, n, want)
	}
}

func TestRecvAsksItsConfig(t *testing.T) {
	nexts := append(edgeNumbers(), -1, 0, 1, 4294967295, 4294967296)
	sizes := append(edgeNumbers(), -1, 0, 1, 2, 262143, 262144, 262145)
	for _, next := range nexts {
		for _, size := range sizes {
			want := codeFor(next >= 0 && next <= 4294967295 && size >= 1 && size <= 262144)
			checkRecvCode(t, next, size, nil, want)
			checkRecvCode(t, next, size, []impl.RecvOp{comes(0, "a"), reads(1), {}}, want)
		}
	}
}

// A configuration that is none is told ahead of too many operations, whatever these are.
func TestRecvCountsItsOperations(t *testing.T) {
	for _, op := range []impl.RecvOp{comes(5, "a"), reads(0), {}, comes(-1, ""), reads(-1)} {
		for n, want := range map[int]int64{0: impl.OK, 1: impl.OK, 1999: impl.OK, 2000: impl.OK, 2001: impl.ErrCount, 5000: impl.ErrCount} {
			ops := slices.Repeat([]impl.RecvOp{op}, n)
			checkRecvCode(t, 5, 10, ops, want)
			checkRecvCode(t, -1, 10, ops, impl.ErrForm)
			checkRecvCode(t, allSeqs, 10, ops, impl.ErrForm)
			checkRecvCode(t, 5, 0, ops, impl.ErrForm)
			checkRecvCode(t, 5, impl.MaxBuffer+1, ops, impl.ErrForm)
			checkRecvCode(t, -1, -1, ops, impl.ErrForm)
		}
	}
}

// What is not valid stands between others, is told, and does nothing: what is unread and held is as it was.
func TestRecvRefusesOperations(t *testing.T) {
	long := impl.RecvOp{Kind: impl.RecvTake, Seq: 2, Data: make([]byte, mostPiece+1)}
	ill := []impl.RecvOp{long, {Kind: impl.RecvTake, Seq: -1, Data: make([]byte, mostPiece+1)}}
	for _, n := range edgeNumbers() {
		if n != impl.RecvTake && n != impl.RecvRead {
			ill = append(ill, impl.RecvOp{Kind: n, Seq: 2, N: 1, Data: []byte("X")})
		}
		if !within(n, 4294967295) {
			ill = append(ill, comes(n, "X"), comes(n, ""))
		}
		if n < 0 {
			ill = append(ill, reads(n), impl.RecvOp{Kind: impl.RecvRead, Seq: 2, N: n, Data: []byte("X")})
		}
	}
	for kind := int64(-5); kind <= 30; kind++ {
		if kind != 1 && kind != 2 {
			ill = append(ill, impl.RecvOp{Kind: kind, Seq: 2, N: 1, Data: []byte("X")})
		}
	}
	state := recvTold(2, 8, 2, 3, "7-8", "4-6")
	for _, op := range ill {
		checkRecv(t, 0, 10,
			recvStep{op, recvRefused(recvTold(0, 10, 0, 0))},
			recvStep{comes(0, "ab"), recvTold(2, 8, 2, 0)},
			recvStep{comes(4, "ef"), recvTold(2, 8, 2, 2, "4-6")},
			recvStep{comes(7, "h"), state},
			recvStep{op, recvRefused(state)},
			recvStep{op, recvRefused(state)},
			recvStep{comes(2, "cd"), recvTold(6, 4, 6, 1, "7-8")},
			recvStep{reads(9), recvRead("abcdef", recvTold(6, 10, 0, 1, "7-8"))},
		)
	}
}

// A field that an operation's kind does not name counts for nothing, whatever it is.
func TestRecvLooksAtItsOwnFields(t *testing.T) {
	for _, n := range edgeNumbers() {
		take := comes(0, "ab")
		take.N = n
		read := reads(1)
		read.Seq, read.Data = n, make([]byte, mostPiece+1)
		checkRecv(t, 0, 10,
			recvStep{take, recvTold(2, 8, 2, 0)},
			recvStep{read, recvRead("a", recvTold(2, 9, 1, 0))},
		)
	}
}

// Pieces of 0, 1, 65535 and 65536 bytes, at the first and at the last sequence number.
func TestRecvAsksThePiece(t *testing.T) {
	for _, next := range []int64{0, 4294967295} {
		for _, n := range []int{0, 1, 65534, 65535} {
			data := randomBytes(newChance(), n)
			after := (next + int64(n)) % allSeqs
			checkRecv(t, next, impl.MaxBuffer,
				recvStep{comes(next, string(data)), recvTold(after, impl.MaxBuffer-int64(n), int64(n), 0)},
				recvStep{comes(next, string(make([]byte, 65536))), recvRefused(recvTold(after, impl.MaxBuffer-int64(n), int64(n), 0))},
				recvStep{reads(mostPiece), recvRead(string(data), recvTold(after, impl.MaxBuffer, 0, 0))},
			)
		}
	}
	for seq, want := range map[int64]int64{-1: impl.ErrForm, 0: impl.OK, 4294967295: impl.OK, 4294967296: impl.ErrForm} {
		if out := runRecv(t, 0, 10, comes(seq, "a"))[0]; out.Code != want || out.Unread != oneIf(seq == 0) {
			t.Errorf("Seq %d: %+v", seq, out)
		}
	}
}

func TestRecvReads(t *testing.T) {
	for n, want := range map[int64]string{
		0: "", 1: "a", 4: "abcd", 5: "abcde", 6: "abcde", 11: "abcde", math.MaxInt64: "abcde", math.MaxInt64 - 1: "abcde", allSeqs: "abcde",
	} {
		left := int64(5 - len(want))
		checkMoved(t, 10,
			recvStep{reads(n), recvTold(0, 10, 0, 0)},
			recvStep{comes(0, "abcde"), recvTold(5, 5, 5, 0)},
			recvStep{comes(7, "h"), recvTold(5, 5, 5, 1, "7-8")},
			recvStep{reads(n), recvRead(want, recvTold(5, 10-left, left, 1, "7-8"))},
			recvStep{reads(math.MaxInt64), recvRead("abcde"[len(want):], recvTold(5, 10, 0, 1, "7-8"))},
			recvStep{reads(n), recvTold(5, 10, 0, 1, "7-8")},
		)
	}
	checkMoved(t, 10,
		recvStep{comes(0, "abc"), recvTold(3, 7, 3, 0)},
		recvStep{reads(-1), recvRefused(recvTold(3, 7, 3, 0))},
		recvStep{reads(1), recvRead("a", recvTold(3, 8, 2, 0))},
		recvStep{reads(1), recvRead("b", recvTold(3, 9, 1, 0))},
		recvStep{comes(3, "def"), recvTold(6, 6, 4, 0)},
		recvStep{reads(3), recvRead("cde", recvTold(6, 9, 1, 0))},
		recvStep{reads(1), recvRead("f", recvTold(6, 10, 0, 0))},
	)
}

func TestRecvInOrderAndBackwards(t *testing.T) {
	checkMoved(t, 8,
		recvStep{comes(0, "ab"), recvTold(2, 6, 2, 0)},
		recvStep{comes(2, "c"), recvTold(3, 5, 3, 0)},
		recvStep{comes(3, "def"), recvTold(6, 2, 6, 0)},
		recvStep{reads(8), recvRead("abcdef", recvTold(6, 8, 0, 0))},
	)
	checkMoved(t, 8,
		recvStep{comes(5, "f"), recvTold(0, 8, 0, 1, "5-6")},
		recvStep{comes(3, "de"), recvTold(0, 8, 0, 3, "3-6")},
		recvStep{comes(1, "b"), recvTold(0, 8, 0, 4, "1-2", "3-6")},
		recvStep{comes(0, "a"), recvTold(2, 6, 2, 3, "3-6")},
		recvStep{comes(2, "c"), recvTold(6, 2, 6, 0)},
		recvStep{reads(8), recvRead("abcdef", recvTold(6, 8, 0, 0))},
	)
}

// P18: the stream comes out of its pieces in each order, with the last of them at the latest.
func TestRecvInEachOrder(t *testing.T) {
	stream := "abcdefghijklmnop"
	for _, cuts := range [][][2]int{
		{{0, 4}, {4, 8}, {8, 12}, {12, 16}}, {{0, 1}, {1, 2}, {2, 15}, {15, 16}}, {{0, 16}, {3, 5}, {7, 9}},
		{{0, 6}, {4, 10}, {8, 14}, {13, 16}, {2, 12}}, {{0, 9}, {9, 16}, {8, 10}, {0, 1}, {15, 16}},
	} {
		for _, order := range orders(cuts) {
			var ops []impl.RecvOp
			for _, cut := range order {
				ops = append(ops, comes((allSeqs-8+int64(cut[0]))%allSeqs, stream[cut[0]:cut[1]]))
			}
			outs := checkRecvAsModel(t, allSeqs-8, 16, append(ops, reads(16)))
			if last := outs[len(outs)-1]; string(last.Data) != stream || last.Next != 8 || last.Room != 16 {
				t.Fatalf("pieces %v: %+v", order, last)
			}
		}
	}
}

// placeCase is a piece, from one place up to another counted from next on, and what of it stays; the room is of 10
// bytes and nothing else is there.
type placeCase struct{ from, to, kept, keptTo int64 }

// Bytes ahead of next and behind the room fall away, and no others.
func TestRecvPlaces(t *testing.T) {
	for _, c := range []placeCase{
		// Wholly ahead of next; the last byte of it is at next.
		{-9, -4, 0, 0}, {-3, -1, 0, 0}, {-3, 0, 0, 0}, {-3, 1, 0, 1}, {-1, 0, 0, 0}, {-1, 1, 0, 1}, {-1, 3, 0, 3},
		// At the room's ends.
		{0, 9, 0, 9}, {0, 10, 0, 10}, {0, 11, 0, 10}, {-1, 10, 0, 10}, {-1, 11, 0, 10}, {-20, 30, 0, 10},
		{1, 9, 1, 9}, {1, 10, 1, 10}, {1, 11, 1, 10}, {9, 10, 9, 10}, {9, 11, 9, 10}, {9, 40, 9, 10}, {8, 10, 8, 10},
		// Wholly behind the room.
		{10, 11, 0, 0}, {10, 20, 0, 0}, {11, 12, 0, 0}, {100, 140, 0, 0},
		{5, 5, 0, 0}, {0, 0, 0, 0}, {10, 10, 0, 0}, {-1, -1, 0, 0},
	} {
		for _, next := range seams() {
			data := randomBytes(newChance(), int(c.to-c.from))
			op := comes((next+c.from+allSeqs)%allSeqs, string(data))
			n := c.keptTo - c.kept
			want := recvTold(next, 10, 0, n)
			if c.kept == 0 {
				want = recvTold((next+n)%allSeqs, 10-n, n, 0)
			} else if n > 0 {
				want.Sacks = []impl.Stretch{{From: (next + c.kept) % allSeqs, To: (next + c.keptTo) % allSeqs}}
			}
			checkRecv(t, next, 10, recvStep{op, want})
			checkRecvAsModel(t, next, 10, []impl.RecvOp{op, reads(20), comes(next, "0123456789"), reads(20)})
		}
	}
}

// From half of all sequence numbers on a byte is ahead of next, not behind it; neither way a piece comes round to next.
func TestRecvAtTheGreatestDistance(t *testing.T) {
	whole := string(randomBytes(newChance(), mostPiece))
	for _, next := range seams() {
		for _, d := range []int64{
			2147483646, 2147483647, 2147483648, 2147483649, 2147483648 - mostPiece, 2147483648 + mostPiece, allSeqs - mostPiece, impl.MaxBuffer,
		} {
			for _, data := range []string{"a", "ab", whole} {
				nothing := recvTold(next, impl.MaxBuffer, 0, 0)
				checkRecv(t, next, impl.MaxBuffer, recvStep{comes((next+d)%allSeqs, data), nothing}, recvStep{reads(1), nothing})
			}
		}
		// The last byte of the longest piece that begins ahead of next is the one at next.
		checkRecv(t, next, impl.MaxBuffer,
			recvStep{comes((next+allSeqs-mostPiece+1)%allSeqs, whole), recvTold((next+1)%allSeqs, impl.MaxBuffer-1, 1, 0)},
			recvStep{reads(9), recvRead(whole[mostPiece-1:], recvTold((next+1)%allSeqs, impl.MaxBuffer, 0, 0))},
		)
	}
}

// A byte that is there stays as it was, whether it is held, unread or read.
func TestRecvTwice(t *testing.T) {
	for _, again := range []string{"cd", "XY"} {
		checkMoved(t, 10,
			recvStep{comes(2, "cd"), recvTold(0, 10, 0, 2, "2-4")},
			recvStep{comes(2, again), recvTold(0, 10, 0, 2, "2-4")},
			recvStep{comes(2, again), recvTold(0, 10, 0, 2, "2-4")},
			recvStep{comes(0, "ab"), recvTold(4, 6, 4, 0)},
			recvStep{comes(2, again), recvTold(4, 6, 4, 0)},
			recvStep{comes(0, "XX"+again), recvTold(4, 6, 4, 0)},
			recvStep{reads(3), recvRead("abc", recvTold(4, 9, 1, 0))},
			recvStep{comes(2, again), recvTold(4, 9, 1, 0)},
			recvStep{comes(0, "XX"+again+"e"), recvTold(5, 8, 2, 0)},
			recvStep{reads(3), recvRead("de", recvTold(5, 10, 0, 0))},
			recvStep{comes(0, "XX"+again+"X"), recvTold(5, 10, 0, 0)},
			recvStep{reads(3), recvTold(5, 10, 0, 0)},
		)
	}
}

// overlapCase is what is held, written as "....efg...", a piece with other bytes that comes at a place, and what is
// held then.
type overlapCase struct {
	held  string
	at    int64
	piece string
	want  string
}

// heldOps bring what a text tells as held, each stretch on its own, from the front on.
func heldOps(held string) []impl.RecvOp {
	var ops []impl.RecvOp
	for i := 0; i < len(held); i++ {
		from := i
		for i < len(held) && held[i] != '.' {
			i++
		}
		if from < i {
			ops = append(ops, comes(int64(from), held[from:i]))
		}
	}
	return ops
}

// stretchesOf are the stretches of such a text from the front on.
func stretchesOf(held string) []impl.Stretch {
	var list []impl.Stretch
	for _, op := range heldOps(held) {
		list = append(list, impl.Stretch{From: op.Seq, To: op.Seq + int64(len(op.Data))})
	}
	return list
}

// Whichever way a piece lies to what is held, just the bytes that are lacking are taken from it.
func TestRecvOverlaps(t *testing.T) {
	for _, c := range []overlapCase{
		// From either side, by one byte and by more.
		{"....efg.....", 2, "XXX", "..XXefg....."}, {"....efg.....", 2, "XXXX", "..XXefg....."}, {"....efg.....", 6, "XXX", "....efgXX..."}, {"....efg.....", 5, "XXXX", "....efgXX..."},
		// Within it, with its beginning or its end, just it.
		{"....efg.....", 5, "X", "....efg....."}, {"....efg.....", 4, "X", "....efg....."}, {"....efg.....", 6, "X", "....efg....."}, {"....efg.....", 4, "XXX", "....efg....."},
		// Over it, on one side and on both.
		{"....efg.....", 3, "XXXX", "...Xefg....."}, {"....efg.....", 4, "XXXX", "....efgX...."}, {"....efg.....", 3, "XXXXX", "...XefgX...."}, {"....efg.....", 1, "XXXXXXXXXX", ".XXXefgXXXX."},
		// More than one of them.
		{".b.de..h.jk.", 1, "XXXXXXXXXX", ".bXdeXXhXjk."}, {".b.de..h.jk.", 0, "", ".b.de..h.jk."}, {".b.de..h.jk.", 1, "XXXXXXXXXXXX", ".bXdeXXhXjkX"}, {".b.de..h.jk.", 2, "XXXXXX", ".bXdeXXh.jk."}, {".b.de..h.jk.", 4, "XXXX", ".b.deXXh.jk."},
		{".b.de..h.jk.", 3, "XXXXXXX", ".b.deXXhXjk."}, {".b.de..h.jk.", 6, "XXXXXX", ".b.de.XhXjkX"}, {".b.de..h.jk.", 5, "XXX", ".b.deXXh.jk."},
		// Without a gap.
		{"....efg.....", 3, "X", "...Xefg....."}, {"....efg.....", 7, "X", "....efgX...."}, {"....efg.....", 1, "XXX", ".XXXefg....."}, {"....efg.....", 7, "XX", "....efgXX..."},
		// With a gap of one byte.
		{"....efg.....", 2, "X", "..X.efg....."}, {"....efg.....", 8, "X", "....efg.X..."}, {"....efg.....", 9, "XXX", "....efg..XXX"},
		// A gap, wholly, in part from either side, and in its middle.
		{"..cd...hi...", 4, "XXX", "..cdXXXhi..."}, {"..cd...hi...", 4, "XX", "..cdXX.hi..."}, {"..cd...hi...", 5, "XX", "..cd.XXhi..."}, {"..cd...hi...", 5, "X", "..cd.X.hi..."},
		{"..cd...hi...", 3, "XXXXX", "..cdXXXhi..."}, {"..cd.f.hi...", 4, "X", "..cdXf.hi..."}, {"..cd.f.hi...", 4, "XXX", "..cdXfXhi..."},
	} {
		ahead := heldOps(c.held)
		ops := append(ahead, comes(c.at, c.piece))
		out := checkRecvAsModel(t, 0, 12, ops)[len(ahead)]
		sacks := stretchesOf(c.want)
		for _, s := range out.Sacks {
			if !slices.Contains(sacks, s) {
				t.Errorf("%+v: %v", c, out.Sacks)
			}
		}
		if len(out.Sacks) != min(len(sacks), impl.MaxSacks) || out.Next != 0 || out.Unread != 0 {
			t.Errorf("%+v: %+v", c, out)
		}
		// What lacks is brought in the end, and tells whose bytes were kept.
		outs := runRecv(t, 0, 12, append(ops, comes(0, "............"), reads(12))...)
		if last := outs[len(outs)-1]; string(last.Data) != c.want {
			t.Errorf("%+v: %q", c, last.Data)
		}
		for _, next := range seams() {
			checkRecvAsModel(t, next, 12, movedOps(append(ops, comes(0, "............"), reads(12)), next))
		}
	}
}

func movedOps(ops []impl.RecvOp, by int64) []impl.RecvOp {
	list := slices.Clone(ops)
	for i := range list {
		list[i].Seq = (list[i].Seq + by) % allSeqs
	}
	return list
}

// A piece at next takes what it touches with it, and nothing behind a gap.
func TestRecvFillsTheFirstGap(t *testing.T) {
	checkMoved(t, 12,
		recvStep{comes(2, "cd"), recvTold(0, 12, 0, 2, "2-4")},
		recvStep{comes(6, "gh"), recvTold(0, 12, 0, 4, "6-8", "2-4")},
		recvStep{comes(0, "a"), recvTold(1, 11, 1, 4, "6-8", "2-4")},
		recvStep{comes(1, "b"), recvTold(4, 8, 4, 2, "6-8")},
		recvStep{comes(0, "XXXXef"), recvTold(8, 4, 8, 0)},
		recvStep{comes(10, "k"), recvTold(8, 4, 8, 1, "10-11")},
		recvStep{comes(8, "ijXlX"), recvTold(12, 0, 12, 0)},
		recvStep{reads(12), recvRead("abcdefghijkl", recvTold(12, 12, 0, 0))},
	)
}

// Next and what is held, on either side of the seam and across it.
func TestRecvAcrossTheSeam(t *testing.T) {
	checkRecv(t, 4294967290, 20,
		recvStep{comes(4294967292, "c"), recvTold(4294967290, 20, 0, 1, "4294967292-4294967293")},
		recvStep{comes(2, "i"), recvTold(4294967290, 20, 0, 2, "2-3", "4294967292-4294967293")},
		recvStep{comes(4294967295, "fg"), recvTold(4294967290, 20, 0, 4, "4294967295-1", "2-3", "4294967292-4294967293")},
		recvStep{comes(4294967294, "e"), recvTold(4294967290, 20, 0, 5, "4294967294-1", "2-3", "4294967292-4294967293")},
		recvStep{comes(4294967290, "ab"), recvTold(4294967293, 17, 3, 4, "4294967294-1", "2-3")},
		recvStep{comes(1, "h"), recvTold(4294967293, 17, 3, 5, "4294967294-3")},
		recvStep{comes(4294967293, "d"), recvTold(3, 11, 9, 0)},
		recvStep{comes(4294967290, "XXXXXXXXXj"), recvTold(4, 10, 10, 0)},
		recvStep{reads(20), recvRead("abcdefghij", recvTold(4, 20, 0, 0))},
	)
	checkRecv(t, 4294967295, 4,
		recvStep{comes(0, "b"), recvTold(4294967295, 4, 0, 1, "0-1")},
		recvStep{comes(4294967295, "a"), recvTold(1, 2, 2, 0)},
		recvStep{comes(2, "dX"), recvTold(1, 2, 2, 1, "2-3")},
		recvStep{comes(4294967294, "XXXc"), recvTold(3, 0, 4, 0)},
		recvStep{reads(4), recvRead("abcd", recvTold(3, 4, 0, 0))},
	)
	// A stretch that ends just at the seam.
	checkRecv(t, 4294967292, 8,
		recvStep{comes(4294967294, "cd"), recvTold(4294967292, 8, 0, 2, "4294967294-0")},
		recvStep{comes(4294967292, "ab"), recvTold(0, 4, 4, 0)},
		recvStep{comes(1, "f"), recvTold(0, 4, 4, 1, "1-2")},
	)
}

func TestRecvRoom(t *testing.T) {
	// Full of unread bytes nothing comes; behind a read just as many bytes may.
	checkMoved(t, 4,
		recvStep{comes(0, "abcdX"), recvTold(4, 0, 4, 0)},
		recvStep{comes(4, "X"), recvTold(4, 0, 4, 0)},
		recvStep{comes(3, "XX"), recvTold(4, 0, 4, 0)},
		recvStep{reads(0), recvTold(4, 0, 4, 0)},
		recvStep{comes(4, "X"), recvTold(4, 0, 4, 0)},
		recvStep{reads(1), recvRead("a", recvTold(4, 1, 3, 0))},
		recvStep{comes(5, "X"), recvTold(4, 1, 3, 0)},
		recvStep{comes(4, "eX"), recvTold(5, 0, 4, 0)},
		recvStep{comes(5, "X"), recvTold(5, 0, 4, 0)},
		recvStep{reads(2), recvRead("bc", recvTold(5, 2, 2, 0))},
		recvStep{comes(6, "gX"), recvTold(5, 2, 2, 1, "6-7")},
		recvStep{comes(4, "XfX"), recvTold(7, 0, 4, 0)},
		recvStep{reads(9), recvRead("defg", recvTold(7, 4, 0, 0))},
	)
	// Of one byte: nothing is ever held.
	checkMoved(t, 1,
		recvStep{comes(1, "b"), recvTold(0, 1, 0, 0)},
		recvStep{comes(0, "aX"), recvTold(1, 0, 1, 0)},
		recvStep{comes(1, "X"), recvTold(1, 0, 1, 0)},
		recvStep{reads(1), recvRead("a", recvTold(1, 1, 0, 0))},
		recvStep{comes(0, "XbX"), recvTold(2, 0, 1, 0)},
		recvStep{reads(5), recvRead("b", recvTold(2, 1, 0, 0))},
	)
	// What is held does not lessen the room, and stays in it while bytes ahead of it become unread.
	checkMoved(t, 6,
		recvStep{comes(5, "fX"), recvTold(0, 6, 0, 1, "5-6")},
		recvStep{comes(0, "abcd"), recvTold(4, 2, 4, 1, "5-6")},
		recvStep{comes(6, "X"), recvTold(4, 2, 4, 1, "5-6")},
		recvStep{reads(3), recvRead("abc", recvTold(4, 5, 1, 1, "5-6"))},
		recvStep{comes(8, "iX"), recvTold(4, 5, 1, 2, "8-9", "5-6")},
		recvStep{comes(4, "eXghX"), recvTold(9, 0, 6, 0)},
		recvStep{reads(6), recvRead("defghi", recvTold(9, 6, 0, 0))},
	)
}

// The greatest buffer is filled wholly, from either end, and again behind a read.
func TestRecvGreatestBuffer(t *testing.T) {
	stream := string(randomBytes(newChance(), 2*impl.MaxBuffer))
	piece := func(from, to int) impl.RecvOp { return comes((allSeqs-100000+int64(from))%allSeqs, stream[from:to]) }
	var ops []impl.RecvOp
	for _, from := range []int{0, 65535, 131070, 196605} {
		ops = append(ops, piece(from, from+mostPiece))
	}
	for _, list := range [][]impl.RecvOp{ops, {ops[3], ops[2], ops[1], ops[0]}, {ops[2], ops[0], ops[3], ops[1]}} {
		list = append(list, piece(262140, 262146), reads(100000), piece(262140, 300000), piece(300001, 362145), piece(300000, 300001), reads(math.MaxInt64))
		outs := runRecv(t, allSeqs-100000, impl.MaxBuffer, list...)
		full := recvTold(162144, 0, impl.MaxBuffer, 0)
		if !sameRecvOut(outs[4], full) {
			t.Errorf("full: %s", shortly(outs[4]))
		}
		if string(outs[5].Data) != stream[:100000] || outs[5].Room != 100000 || outs[5].Next != 162144 {
			t.Errorf("a read: %s", shortly(outs[5]))
		}
		if !sameRecvOut(outs[7], recvTold(200000, 62144, 200000, 62143, "200001-262144")) {
			t.Errorf("held: %s", shortly(outs[7]))
		}
		if string(outs[9].Data) != stream[100000:362144] || outs[9].Room != impl.MaxBuffer || outs[9].Next != 262144 {
			t.Errorf("the rest: %s", shortly(outs[9]))
		}
	}
}

// At most MaxSacks are told, the latest first; one that was told no more comes among them again.
func TestRecvSacks(t *testing.T) {
	checkMoved(t, 50,
		recvStep{comes(10, "kl"), recvTold(0, 50, 0, 2, "10-12")},
		recvStep{comes(30, "x"), recvTold(0, 50, 0, 3, "30-31", "10-12")},
		recvStep{comes(20, "uv"), recvTold(0, 50, 0, 5, "20-22", "30-31", "10-12")},
		recvStep{comes(40, "y"), recvTold(0, 50, 0, 6, "40-41", "20-22", "30-31")},
		recvStep{comes(5, "f"), recvTold(0, 50, 0, 7, "5-6", "40-41", "20-22")},
		// A byte that was held already.
		recvStep{comes(11, "X"), recvTold(0, 50, 0, 7, "10-12", "5-6", "40-41")},
		recvStep{comes(30, "X"), recvTold(0, 50, 0, 7, "30-31", "10-12", "5-6")},
		recvStep{comes(30, "X"), recvTold(0, 50, 0, 7, "30-31", "10-12", "5-6")},
		// All of a piece falls away, ahead of next and behind the room; an empty one; a read; none that is valid.
		recvStep{comes(allSeqs-3, "XXX"), recvTold(0, 50, 0, 7, "30-31", "10-12", "5-6")},
		recvStep{comes(50, "X"), recvTold(0, 50, 0, 7, "30-31", "10-12", "5-6")},
		recvStep{comes(40, ""), recvTold(0, 50, 0, 7, "30-31", "10-12", "5-6")},
		recvStep{reads(5), recvTold(0, 50, 0, 7, "30-31", "10-12", "5-6")},
		recvStep{comes(-1, "X"), recvRefused(recvTold(0, 50, 0, 7, "30-31", "10-12", "5-6"))},
		// It grows on one side.
		recvStep{comes(41, "z"), recvTold(0, 50, 0, 8, "40-42", "30-31", "10-12")},
		// At next: it becomes unread, and the order of the others stays.
		recvStep{comes(0, "abcde"), recvTold(6, 44, 6, 7, "40-42", "30-31", "10-12")},
		recvStep{comes(6, "ghij"), recvTold(12, 38, 12, 5, "40-42", "30-31", "20-22")},
		recvStep{reads(50), recvRead("abcdefghijkl", recvTold(12, 50, 0, 5, "40-42", "30-31", "20-22"))},
	)
}

// When stretches grow together the latest take of all of them counts, and that is the one that joins them.
func TestRecvSacksGrowTogether(t *testing.T) {
	checkMoved(t, 50,
		recvStep{comes(10, "a"), recvTold(0, 50, 0, 1, "10-11")},
		recvStep{comes(12, "b"), recvTold(0, 50, 0, 2, "12-13", "10-11")},
		recvStep{comes(20, "c"), recvTold(0, 50, 0, 3, "20-21", "12-13", "10-11")},
		recvStep{comes(30, "d"), recvTold(0, 50, 0, 4, "30-31", "20-21", "12-13")},
		recvStep{comes(11, "e"), recvTold(0, 50, 0, 5, "10-13", "30-31", "20-21")},
		recvStep{comes(40, "f"), recvTold(0, 50, 0, 6, "40-41", "10-13", "30-31")},
		// Over the end of the room: its last bytes fall away, the first one counts.
		recvStep{comes(49, "gXX"), recvTold(0, 50, 0, 7, "49-50", "40-41", "10-13")},
		recvStep{comes(21, "hijklmnop"), recvTold(0, 50, 0, 16, "20-31", "49-50", "40-41")},
		recvStep{comes(12, "qrstuvwx"), recvTold(0, 50, 0, 23, "10-31", "49-50", "40-41")},
		recvStep{comes(1, "yz"), recvTold(0, 50, 0, 25, "1-3", "10-31", "49-50")},
		// Ahead of next and behind it: what became unread brings none forward.
		recvStep{comes(allSeqs-1, "XA"), recvTold(3, 47, 3, 23, "10-31", "49-50", "40-41")},
		recvStep{comes(2, "X"), recvTold(3, 47, 3, 23, "10-31", "49-50", "40-41")},
		recvStep{comes(2, "XBCDEFG"), recvTold(9, 41, 9, 23, "10-31", "49-50", "40-41")},
		recvStep{comes(8, "XHX"), recvTold(31, 19, 31, 2, "49-50", "40-41")},
		recvStep{reads(50), recvRead("AyzBCDEFGHaebrstuvwxchijklmnopd", recvTold(31, 50, 0, 2, "49-50", "40-41"))},
	)
}

// recvPiece is what a stream has from one place up to another, as an operation.
func recvPiece(next int64, stream []byte, from, to int) impl.RecvOp {
	from = min(max(from, 0), len(stream))
	to = min(max(from, to), len(stream))
	return comes((next+int64(from))%allSeqs, string(stream[from:to]))
}

// checkPrefix asks for P18: what has been read is the stream's beginning, and so is what next tells; the stretches are
// apart, hold something, lie within the room behind next, and tell what is held if they are all told.
func checkPrefix(t *testing.T, next, size int64, stream []byte, outs []impl.RecvOut) int {
	t.Helper()
	var read []byte
	for i, out := range outs {
		read = append(read, out.Data...)
		come := int64(len(read)) + out.Unread
		if !bytes.HasPrefix(stream, read) || come > int64(len(stream)) || out.Next != (next+come)%allSeqs || out.Room != size-out.Unread || out.Room < 0 {
			t.Fatalf("operation %d: %d bytes read, %s", i, len(read), shortly(out))
		}
		checkSacksApart(t, out)
	}
	return len(read)
}

func checkSacksApart(t *testing.T, out impl.RecvOut) {
	t.Helper()
	var places [][2]int64
	var all int64
	for _, s := range out.Sacks {
		from, to := placeFrom(out.Next, s.From), placeFrom(out.Next, s.To)
		if from < 1 || to <= from || to > out.Room || !within(s.From, allSeqs-1) || !within(s.To, allSeqs-1) {
			t.Fatalf("a stretch %v of %s", s, shortly(out))
		}
		for _, other := range places {
			if from <= other[1] && other[0] <= to {
				t.Fatalf("stretches of %s are not apart", shortly(out))
			}
		}
		places = append(places, [2]int64{from, to})
		all += to - from
	}
	if all > out.Held || len(out.Sacks) < impl.MaxSacks && all != out.Held || len(out.Sacks) > impl.MaxSacks {
		t.Fatalf("stretches of %d bytes: %s", all, shortly(out))
	}
}

// P18: whatever pieces come, overlapping and doubled, and however little is read of them.
func TestRecvGivesAPrefix(t *testing.T) {
	chance := newChance()
	whole := 0
	for range 1500 {
		next, size := seams()[chance.Intn(len(seams()))], 1+chance.Int63n(120)
		stream := randomBytes(chance, 1+chance.Intn(300))
		var ops []impl.RecvOp
		for range 10 + chance.Intn(300) {
			from := chance.Intn(len(stream)+5) - 5
			ops = append(ops, recvPiece(next, stream, from, from+chance.Intn(1+chance.Intn(60))))
			if chance.Intn(3) == 0 {
				ops = append(ops, reads(chance.Int63n(50)))
			}
		}
		if checkPrefix(t, next, size, stream, checkRecvAsModel(t, next, size, ops)) == len(stream) {
			whole++
		}
	}
	if whole < 100 {
		t.Errorf("only %d streams were read to their end", whole)
	}
}

// P18: all of a stream is given when each round has the piece at next, wherever in it, and ends with a read.
func TestRecvGivesTheWholeStream(t *testing.T) {
	chance := newChance()
	for range 500 {
		next, size := seams()[chance.Intn(len(seams()))], 5+chance.Int63n(100)
		stream := randomBytes(chance, 100+chance.Intn(200))
		var pieces, ops []impl.RecvOp
		for from := 0; from < len(stream); from += 5 {
			pieces = append(pieces, recvPiece(next, stream, from-chance.Intn(4), from+5+chance.Intn(4)))
		}
		for i := range pieces {
			ops = append(ops, shuffled(chance, pieces[i:min(i+8, len(pieces))])...)
			ops = append(ops, reads(size))
		}
		if n := checkPrefix(t, next, size, stream, runRecv(t, next, size, ops...)); n != len(stream) {
			t.Fatalf("%d of %d bytes, size %d", n, len(stream), size)
		}
	}
}

// recvScript has pieces of no one stream around where next is, reads, and some operations that are not valid.
func recvScript(chance *rand.Rand, next, size int64, n int) []impl.RecvOp {
	m := newModelRecv(next, size)
	var ops []impl.RecvOp
	for range n {
		op := impl.RecvOp{Kind: impl.RecvTake}
		op.Seq = (m.next + chance.Int63n(size+size/2+3) - size/4 - 1 + allSeqs) % allSeqs
		op.Data = randomBytes(chance, chance.Intn(1+chance.Intn(int(size))))
		switch chance.Intn(16) {
		case 0, 1, 2:
			op = reads(chance.Int63n(size + 2))
		case 3:
			op.Seq = m.next
		case 4:
			op.Seq = edgeNumbers()[chance.Intn(len(edgeNumbers()))]
		case 5:
			op.Kind = chance.Int63n(5) - 1
			op.N = chance.Int63n(5) - 2
		}
		m.do(op)
		ops = append(ops, op)
	}
	return ops
}

func TestRecvAnswersAsTheModel(t *testing.T) {
	chance := newChance()
	sacks := map[int]int{}
	for range 3000 {
		next, size := seams()[chance.Intn(len(seams()))], 1+chance.Int63n(1+chance.Int63n(80))
		for _, out := range checkRecvAsModel(t, next, size, recvScript(chance, next, size, 60)) {
			sacks[len(out.Sacks)]++
			if out.Code == impl.OK {
				checkSacksApart(t, out)
			}
		}
	}
	for n := range impl.MaxSacks + 1 {
		if sacks[n] < 1000 {
			t.Errorf("%d stretches were told only %d times", n, sacks[n])
		}
	}
	for range 20 {
		checkRecvAsModel(t, allSeqs-1000, 3000, recvScript(chance, allSeqs-1000, 3000, 100))
	}
}

// As many stretches as there are operations are kept apart; filling them gives all.
func TestRecvManyStretches(t *testing.T) {
	const n = impl.MaxOps - 2
	var ops []impl.RecvOp
	for _, i := range newChance().Perm(n) {
		ops = append(ops, comes((allSeqs-n+int64(2*i+1))%allSeqs, string([]byte{byte(i)})))
	}
	ops = append(ops, comes(allSeqs-n, string(make([]byte, 2*n))), reads(math.MaxInt64))
	outs := runRecv(t, allSeqs-n, impl.MaxBuffer, ops...)
	for i, out := range outs[:n] {
		if out.Held != int64(i+1) || out.Next != allSeqs-n || len(out.Sacks) != min(i+1, impl.MaxSacks) || out.Sacks[0].From != ops[i].Seq {
			t.Fatalf("operation %d: %+v", i, out)
		}
	}
	last := outs[n+1]
	if outs[n].Unread != 2*n || outs[n].Held != 0 || last.Next != n || len(last.Data) != 2*n {
		t.Fatalf("%s, %s", shortly(outs[n]), shortly(last))
	}
	for i, x := range last.Data {
		if want := byte(i / 2 * (i % 2)); x != want {
			t.Fatalf("byte %d: %d, not %d", i, x, want)
		}
	}
}

// roomyRecvOps have their bytes in memory with room behind them.
func roomyRecvOps(ops []impl.RecvOp) []impl.RecvOp {
	room := slices.Clone(ops)
	for i, op := range room {
		room[i].Data = append(append(make([]byte, 0, len(op.Data)+8), op.Data...), 5, 6, 7, 8)[:len(op.Data)]
	}
	return room
}

func sameRecvOps(a, b []impl.RecvOp) bool {
	return slices.EqualFunc(a, b, func(x, y impl.RecvOp) bool {
		return x.Kind == y.Kind && x.Seq == y.Seq && x.N == y.N && bytes.Equal(withRoom(x.Data), withRoom(y.Data))
	})
}

func cloneRecvOuts(outs []impl.RecvOut) []impl.RecvOut {
	clones := slices.Clone(outs)
	for i, out := range clones {
		clones[i].Data, clones[i].Sacks = bytes.Clone(out.Data), slices.Clone(out.Sacks)
	}
	return clones
}

// P51: a run answers the same again and changes none of its operations, the room behind their bytes included; what it
// tells is in nobody else's memory, and a list that is written into, up to its capacity, changes no other one.
func TestRecvSharesNothing(t *testing.T) {
	chance := newChance()
	for range 150 {
		next, size := seams()[chance.Intn(len(seams()))], 1+chance.Int63n(60)
		script := append(recvScript(chance, next, size, 60), reads(3), comes(next, "abc"))
		room := roomyRecvOps(script)
		ops := room[:len(room)-2]
		kept := roomyRecvOps(script)
		first := runRecv(t, next, size, ops...)
		told := cloneRecvOuts(first)
		second := runRecv(t, next, size, ops...)
		if !sameRecvOuts(second, told) || !sameRecvOps(room, kept) {
			t.Fatalf("another answer the second time, or an operation was changed")
		}
		for i := range second {
			spoil(second[i].Data, 99)
			second[i].Data = told[i].Data
			spoil(second[i].Sacks, impl.Stretch{From: 7, To: 9})
			second[i].Sacks = told[i].Sacks
			if !sameRecvOuts(second, told) {
				t.Fatalf("a list of operation %d is in another's memory", i)
			}
		}
		if !sameRecvOps(room, kept) {
			t.Fatal("an answer is in an operation's memory")
		}
		for _, op := range room {
			spoil(op.Data, 98)
		}
		if clear(room); !sameRecvOuts(first, told) {
			t.Fatal("an answer is in an operation's memory")
		}
	}
}

// P51: what one read has been given ends where it ends: nothing that is appended to it is seen by a later one.
func TestRecvReadsEndWhereTheyEnd(t *testing.T) {
	outs := runRecv(t, 0, 100, comes(0, "abcdefghij"), reads(3), reads(3), comes(11, "lm"), comes(10, "k"), reads(9), reads(9))
	for i, want := range map[int]string{1: "abc", 2: "def", 5: "ghijklm", 6: ""} {
		if string(outs[i].Data) != want {
			t.Errorf("operation %d: %q", i, outs[i].Data)
		}
	}
	_ = append(outs[1].Data, "XXXXXXXXXXXXXXXX"...)
	_ = append(outs[2].Data, "YYYYYYYYYYYYYYYY"...)
	if string(outs[2].Data) != "def" || string(outs[5].Data) != "ghijklm" {
		t.Errorf("%q and %q behind what was appended", outs[2].Data, outs[5].Data)
	}
}

// P51: runs at the same time on the same operations answer the same.
func TestRecvAtTheSameTime(t *testing.T) {
	ops := recvScript(newChance(), allSeqs-20, 50, 200)
	want := runRecv(t, allSeqs-20, 50, ops...)
	done := make(chan bool)
	for range 8 {
		go func() {
			outs, code := impl.RunRecv(impl.RecvConfig{Next: allSeqs - 20, Size: 50}, ops)
			done <- code == impl.OK && sameRecvOuts(outs, want)
		}()
	}
	for range 8 {
		if !<-done {
			t.Error("another answer beside others")
		}
	}
}
