package tests

import (
	"bytes"
	"math"
	"math/rand"
	"slices"
	"testing"

	"loop.example/g00003/impl"
)

const (
	leastMtu = 68
	mostMtu  = 65535
	// patience is how long a datagram may be in the making.
	patience = 30000
)

// wholePacket has a payload of n bytes, of which no eight are like others near them.
func wholePacket(n int) impl.Packet {
	p := impl.Packet{Tos: 3, ID: 7, TTL: 64, Proto: impl.ProtoUdp, Src: ownAddr, Dst: near}
	for i := range n {
		p.Payload = append(p.Payload, byte(i*7+i>>8*3))
	}
	return p
}

func clonePacket(p impl.Packet) impl.Packet {
	p.Options, p.Payload = bytes.Clone(p.Options), bytes.Clone(p.Payload)
	return p
}

func samePackets(a, b []impl.Packet) bool { return slices.EqualFunc(a, b, samePacket) }

// modelFragment asks for every byte of the payload in which fragment it stands.
func modelFragment(p impl.Packet, mtu int64) ([]impl.Packet, int64) {
	if _, code := impl.EncodeIP(p); code != impl.OK || mtu < 68 || mtu > 65535 {
		return nil, impl.ErrForm
	}
	head := 20 + len(p.Options)
	if head+len(p.Payload) <= int(mtu) {
		return []impl.Packet{clonePacket(p)}, impl.OK
	}
	steps := (int(mtu) - head) >> 3
	if p.DF || steps == 0 {
		return nil, impl.ErrSize
	}
	var list []impl.Packet
	for i, x := range p.Payload {
		if i%(8*steps) == 0 {
			f := p
			f.MF, f.Offset, f.Payload = true, p.Offset+int64(i), nil
			list = append(list, f)
		}
		last := &list[len(list)-1]
		last.Payload = append(last.Payload, x)
	}
	list[len(list)-1].MF = p.MF
	return list, impl.OK
}

func checkFragment(t *testing.T, p impl.Packet, mtu, want int64) []impl.Packet {
	t.Helper()
	list, code := impl.Fragment(p, mtu)
	model, modelCode := modelFragment(p, mtu)
	if code != want || code != modelCode || !samePackets(list, model) {
		t.Errorf("Fragment(%s, %d): %d packets, %s, %d, not %d packets, %d", shortly(p), mtu, len(list), shortly(list), code, len(model), want)
	}
	return list
}

func TestFragmentsOfAPacket(t *testing.T) {
	p := impl.Packet{
		Tos: 1, ID: 2, TTL: 3, Proto: 4, Src: 5, Dst: 6, Options: []byte{1, 2, 3, 4, 5, 6, 7, 8}, Payload: wholePacket(85).Payload,
	}
	list := checkFragment(t, p, 70, impl.OK)
	if len(list) != 3 {
		t.Fatalf("%d fragments", len(list))
	}
	for i, part := range [][]byte{p.Payload[:40], p.Payload[40:80], p.Payload[80:]} {
		want := p
		want.MF, want.Offset, want.Payload = i < 2, int64(40*i), part
		if !samePacket(list[i], want) {
			t.Errorf("fragment %d: %v, not %v", i, list[i], want)
		}
	}
}

func TestFragmentAsksTheMtu(t *testing.T) {
	for _, mtu := range append(edgeNumbers(), 1, 20, 28, 67, 68, 69, 100, 1500, 65534, 65535, 65536) {
		want := int64(impl.OK)
		if mtu < leastMtu || mtu > mostMtu {
			want = impl.ErrForm
		}
		for _, n := range []int{0, 1, 48, 49, 100, 65515} {
			checkFragment(t, wholePacket(n), mtu, want)
		}
	}
}

// A packet of just mtu bytes is left as it is, with DF too; one of one byte more is cut, or is too long.
func TestFragmentAtTheMtu(t *testing.T) {
	chance := newChance()
	for words := range 11 {
		for _, mtu := range []int64{68, 69, 75, 76, 77, 128, 576, 1499, 1500, 65534} {
			for _, over := range []int{-1, 0, 1, 2, 8} {
				n := int(mtu) - shortestHead - 4*words + over
				if n > impl.MaxPacket-shortestHead-4*words {
					continue
				}
				for _, df := range []bool{false, true} {
					p := wholePacket(n)
					p.DF, p.Options = df, randomBytes(chance, 4*words)
					want := int64(impl.OK)
					if df && over > 0 {
						want = impl.ErrSize
					}
					list := checkFragment(t, p, mtu, want)
					if over <= 0 && (len(list) != 1 || !samePacket(list[0], p)) {
						t.Errorf("%d bytes into %d: %d packets", n, mtu, len(list))
					}
				}
			}
		}
	}
}

// Beside the longest head the least mtu leaves room for 8 bytes; one with room for 7 is no mtu.
func TestFragmentBesideTheLongestHead(t *testing.T) {
	p := wholePacket(100)
	p.Options = bytes.Repeat([]byte{1}, 40)
	for mtu, n := range map[int64]int{68: 13, 69: 13, 75: 13, 76: 7, 83: 7, 84: 5, 159: 2, 160: 1} {
		if list := checkFragment(t, p, mtu, impl.OK); len(list) != n {
			t.Errorf("mtu %d: %d packets, not %d", mtu, len(list), n)
		}
	}
	checkFragment(t, p, 67, impl.ErrForm)
}

// The last fragment is full, has one byte, or one less than is full.
func TestFragmentLastOnes(t *testing.T) {
	for _, mtu := range []int64{68, 71, 75, 76, 1500} {
		room := int(mtu-shortestHead) / 8 * 8
		for _, times := range []int{2, 3, 10} {
			for over, last := range map[int]int{-1: room - 1, 0: room, 1: 1, 7: 7, 8: 8} {
				list := checkFragment(t, wholePacket(times*room+over), mtu, impl.OK)
				if len(list) == 0 || len(list[len(list)-1].Payload) != last || impl.PacketSize(list[0]) != int64(room+shortestHead) {
					t.Errorf("mtu %d, %d bytes: %s", mtu, times*room+over, shortly(list))
				}
			}
		}
	}
}

// A fragment that is cut again stands where it stood, and the last one has its MF.
func TestFragmentOfAFragment(t *testing.T) {
	for _, offset := range []int64{0, 8, 800, 32768, 65432} {
		for _, mf := range []bool{false, true} {
			for _, n := range []int{0, 1, 48, 49, 96, 97, 103} {
				p := wholePacket(n)
				p.Offset, p.MF = offset, mf
				list := checkFragment(t, p, leastMtu, impl.OK)
				if len(list) == 0 || list[len(list)-1].MF != mf || list[0].Offset != offset || list[0].MF != (mf || n > 48) {
					t.Errorf("offset %d, MF %v, %d bytes: %v", offset, mf, n, list)
				}
			}
		}
	}
	// The last places that there are.
	p := wholePacket(65535 - 65400)
	p.Offset = 65400
	checkFragment(t, p, leastMtu, impl.OK)
}

func TestFragmentOfNothing(t *testing.T) {
	for _, p := range []impl.Packet{{}, {DF: true}, {MF: true}, {Offset: lastOffset}, {Options: make([]byte, 40), DF: true}} {
		for _, mtu := range []int64{68, 69, 1500, 65535} {
			checkFragment(t, p, mtu, impl.OK)
		}
	}
}

// illPackets are those of which EncodeIP is not OK, for their numbers or for their size.
func illPackets() []impl.Packet {
	return []impl.Packet{
		{Tos: -1}, {Tos: 256}, {TTL: -1}, {TTL: 256}, {Proto: -1}, {Proto: 256}, {ID: -1}, {ID: 65536},
		{Offset: -8}, {Offset: 4}, {Offset: 65536}, {Offset: math.MinInt64}, {Offset: math.MaxInt64},
		{Src: -1}, {Src: lastAddr + 1}, {Dst: -1}, {Dst: lastAddr + 1}, {Options: make([]byte, 3)}, {Options: make([]byte, 44)},
		{Payload: make([]byte, 65516)}, {Options: make([]byte, 40), Payload: make([]byte, 65476)},
		{Offset: lastOffset, Payload: make([]byte, 8)}, {Offset: 32768, MF: true, Payload: make([]byte, 32768)},
	}
}

// What EncodeIP does not take is told as ErrForm, whatever EncodeIP tells, and ahead of DF.
func TestFragmentTellsTheFirstError(t *testing.T) {
	for _, p := range illPackets() {
		for _, mtu := range []int64{68, 1500, 65535, 67, 65536, 0, -1, math.MaxInt64, math.MinInt64} {
			for _, df := range []bool{false, true} {
				p.DF = df
				checkFragment(t, p, mtu, impl.ErrForm)
			}
		}
	}
	long := wholePacket(5000)
	long.DF = true
	for mtu, want := range map[int64]int64{67: impl.ErrForm, 68: impl.ErrSize, 5019: impl.ErrSize, 5020: impl.OK, 65535: impl.OK, 65536: impl.ErrForm} {
		checkFragment(t, long, mtu, want)
	}
}

func TestFragmentAnswersAsTheModel(t *testing.T) {
	chance := newChance()
	for range 3000 {
		p := randomPacket(chance, chance.Intn(11), chance.Intn(1200))
		mtu := leastMtu + chance.Int63n(400)
		_, want := modelFragment(p, mtu)
		for _, f := range checkFragment(t, p, mtu, want) {
			if impl.PacketSize(f) > mtu {
				t.Fatalf("a fragment of %d bytes, mtu %d", impl.PacketSize(f), mtu)
			}
		}
	}
	for _, mtu := range []int64{68, 1500, 40000, 65534} {
		p := wholePacket(65475)
		p.Options = randomBytes(chance, 40)
		checkFragment(t, p, mtu, impl.OK)
	}
}

// P51: a packet stays as it is, the room behind its lists too; no list of the answer is in its memory or in another's.
func TestFragmentSharesNothing(t *testing.T) {
	for _, c := range []struct{ options, payload, mtu int }{{0, 0, 68}, {8, 40, 68}, {8, 41, 68}, {40, 100, 68}, {4, 5000, 576}, {8, 10, 67}, {7, 10, 68}} {
		room := randomBytes(newChance(), c.options+c.payload+100)
		kept := bytes.Clone(room)
		p := simplePacket()
		p.Options = room[10 : 10+c.options]
		p.Payload = room[60+c.options : 60+c.options+c.payload]
		list, code := impl.Fragment(p, int64(c.mtu))
		told, _ := modelFragment(p, int64(c.mtu))
		told = clonePackets(told)
		again, codeAgain := impl.Fragment(p, int64(c.mtu))
		if !samePackets(list, told) || !samePackets(again, told) || code != codeAgain {
			t.Errorf("%+v: another answer the second time", c)
		}
		for i := range list {
			spoil(list[i].Options, 99)
			if list[i].Options = told[i].Options; !samePackets(list, told) {
				t.Fatalf("%+v: the options of fragment %d are in another's memory", c, i)
			}
			spoil(list[i].Payload, 98)
			if list[i].Payload = told[i].Payload; !samePackets(list, told) {
				t.Fatalf("%+v: the payload of fragment %d is in another's memory", c, i)
			}
		}
		if !bytes.Equal(room, kept) {
			t.Errorf("%+v: the answer is the argument's memory", c)
		}
		clear(room)
		if !samePackets(again, told) {
			t.Errorf("%+v: the answer is the argument's memory", c)
		}
	}
}

func clonePackets(list []impl.Packet) []impl.Packet {
	var clones []impl.Packet
	for _, p := range list {
		clones = append(clones, clonePacket(p))
	}
	return clones
}

func taking(p impl.Packet) impl.ReasmOp { return impl.ReasmOp{Kind: impl.ReasmTake, Packet: p} }

func takingAll(list []impl.Packet) []impl.ReasmOp {
	var ops []impl.ReasmOp
	for _, p := range list {
		ops = append(ops, taking(p))
	}
	return ops
}

func resting(wait int64) impl.ReasmOp { return impl.ReasmOp{Kind: impl.ReasmPass, Wait: wait} }

// partOf is the payload of p from a place up to another as a fragment, with more behind it or not.
func partOf(p impl.Packet, from, to int, more bool) impl.Packet {
	p.MF, p.Offset, p.Payload = more, int64(from), p.Payload[from:to]
	return p
}

func endOf(p impl.Packet, first bool) impl.ReasmEnd {
	return impl.ReasmEnd{Src: p.Src, Dst: p.Dst, Proto: p.Proto, ID: p.ID, First: first}
}

func sameReasmOut(a, b impl.ReasmOut) bool {
	return a.Code == b.Code && a.Done == b.Done && samePacket(a.Packet, b.Packet) && slices.Equal(a.Ended, b.Ended) &&
		a.Held == b.Held && a.Bytes == b.Bytes
}

func sameReasmOuts(a, b []impl.ReasmOut) bool { return slices.EqualFunc(a, b, sameReasmOut) }

func runReasm(t *testing.T, ops ...impl.ReasmOp) []impl.ReasmOut {
	t.Helper()
	return runAll(t, impl.RunReasm, ops)
}

type reasmStep = step[impl.ReasmOp, impl.ReasmOut]

func checkReasm(t *testing.T, steps ...reasmStep) {
	t.Helper()
	checkRunOf(t, impl.RunReasm, sameReasmOut, steps)
}

// holding is what an operation tells of which nothing more comes.
func holding(held, size int64) impl.ReasmOut { return impl.ReasmOut{Held: held, Bytes: size} }

func doneWith(p impl.Packet, held, size int64) impl.ReasmOut {
	return impl.ReasmOut{Done: true, Packet: p, Held: held, Bytes: size}
}

// orders are all orders of a list.
func orders[T any](list []T) [][]T {
	if len(list) == 0 {
		return [][]T{nil}
	}
	var all [][]T
	for i := range list {
		rest := append(slices.Clone(list[:i]), list[i+1:]...)
		for _, order := range orders(rest) {
			all = append(all, append([]T{list[i]}, order...))
		}
	}
	return all
}

// P10: with the last fragment, and not ahead of it, the packet is told, in each order.
func TestReasmInEachOrder(t *testing.T) {
	for _, n := range []int{49, 96, 97, 144, 145, 200, 240} {
		p := wholePacket(n)
		p.Options = []byte{7, 0, 0, 0}
		list, code := impl.Fragment(p, 72)
		if code != impl.OK || len(list) < 2 {
			t.Fatalf("%d bytes: %d fragments, %d", n, len(list), code)
		}
		for _, order := range orders(list) {
			var steps []reasmStep
			var size int64
			for _, f := range order[:len(order)-1] {
				size += int64(len(f.Payload))
				steps = append(steps, reasmStep{taking(f), holding(1, size)})
			}
			checkReasm(t, append(steps, reasmStep{taking(order[len(order)-1]), doneWith(p, 0, 0)})...)
		}
	}
}

// cutAgain cuts some of the fragments of a packet with other mtus, each at most the first one.
func cutAgain(t *testing.T, chance *rand.Rand, p impl.Packet, mtu int64) []impl.Packet {
	t.Helper()
	var list []impl.Packet
	first, code := impl.Fragment(p, mtu)
	for _, f := range first {
		parts := []impl.Packet{f}
		if chance.Intn(2) == 0 {
			parts, code = impl.Fragment(f, leastMtu+chance.Int63n(mtu-leastMtu+1))
		}
		if code != impl.OK {
			t.Fatalf("Fragment of %d bytes, mtu %d: %d", len(p.Payload), mtu, code)
		}
		list = append(list, parts...)
	}
	for _, f := range list {
		if impl.PacketSize(f) > mtu {
			t.Fatalf("a fragment of %d bytes, mtu %d", impl.PacketSize(f), mtu)
		}
	}
	return list
}

func shuffled[T any](chance *rand.Rand, list []T) []T {
	list = slices.Clone(list)
	chance.Shuffle(len(list), func(i, j int) { list[i], list[j] = list[j], list[i] })
	return list
}

// randomWhole is a packet that is neither a fragment nor kept from being cut.
func randomWhole(chance *rand.Rand, words, payload int) impl.Packet {
	p := randomPacket(chance, words, payload)
	p.DF, p.MF, p.Offset = false, false, 0
	return p
}

func checkPutTogether(t *testing.T, p impl.Packet, fragments []impl.Packet) {
	t.Helper()
	for i, out := range runReasm(t, takingAll(fragments)...) {
		last := i == len(fragments)-1
		if out.Code != impl.OK || out.Done != last || len(out.Ended) != 0 || last && (!samePacket(out.Packet, p) || out.Held != 0) {
			t.Fatalf("fragment %d of %d: %s, not %s", i, len(fragments), shortly(out), shortly(p))
		}
	}
}

// P10: fragments, cut again or not, give just the packet with the last of them.
func TestReasmGivesThePacket(t *testing.T) {
	chance := newChance()
	for range 600 {
		p := randomWhole(chance, chance.Intn(11), chance.Intn(3000))
		mtu := leastMtu + chance.Int63n(600)
		checkPutTogether(t, p, shuffled(chance, cutAgain(t, chance, p, mtu)))
	}
	for _, words := range []int{0, 1, 10} {
		p := randomWhole(chance, words, impl.MaxPacket-shortestHead-4*words)
		for _, mtu := range []int64{576, 1500, 40000, 65534, 65535} {
			list := cutAgain(t, chance, p, mtu)
			if len(list) <= impl.MaxOps {
				checkPutTogether(t, p, shuffled(chance, list))
			}
		}
	}
}

// Whole packets are told at once, whatever is in the making, and hold nothing.
func TestReasmOfWholePackets(t *testing.T) {
	p := wholePacket(24)
	other := p
	other.Payload, other.DF, other.TTL = []byte{9}, true, 1
	empty := impl.Packet{}
	checkReasm(t,
		reasmStep{taking(empty), doneWith(empty, 0, 0)},
		reasmStep{taking(p), doneWith(p, 0, 0)},
		reasmStep{taking(p), doneWith(p, 0, 0)},
		reasmStep{taking(partOf(p, 8, 24, false)), holding(1, 16)},
		reasmStep{taking(other), doneWith(other, 1, 16)},
		reasmStep{taking(partOf(p, 0, 8, true)), doneWith(p, 0, 0)},
	)
	for _, p := range edgePackets() {
		p.Offset, p.MF = 0, false
		checkReasm(t, reasmStep{taking(p), doneWith(p, 0, 0)})
	}
}

// What comes of pieces of one datagram of 40 bytes.
const (
	piecesKept = iota
	piecesDone
	piecesRefused
)

type testPiece struct {
	from, to    int
	last, other bool
}

// of is the piece as a packet; its bytes are those of p, or all turned.
func (c testPiece) of(p impl.Packet) impl.Packet {
	f := clonePacket(partOf(p, c.from, c.to, !c.last))
	for i := range f.Payload {
		if c.other {
			f.Payload[i] ^= 255
		}
	}
	return f
}

// pieceCases tell what comes of the last piece of each; ahead of it all are kept.
func pieceCases() map[int][][]testPiece {
	first, second, third := testPiece{from: 0, to: 8}, testPiece{from: 8, to: 16}, testPiece{from: 16, to: 24}
	lastSecond, lastThird := testPiece{from: 8, to: 16, last: true}, testPiece{from: 16, to: 24, last: true}
	return map[int][][]testPiece{
		piecesKept: {
			{first}, {second}, {lastSecond}, {first, third}, {third, lastFourth()}, {second, third, first},
			{first, first}, {second, second}, {lastSecond, lastSecond}, {first, third, first},
			// The same stretch tells an end that was not known, or no more the one that was.
			{second, lastSecond}, {lastSecond, second}, {first, third, lastThird},
			{{from: 8, to: 17, last: true}, {from: 8, to: 17, last: true}},
			{first, {from: 16, to: 17, last: true}},
		},
		piecesDone: {
			{first, lastSecond}, {lastSecond, first}, {third, first, lastFourth(), second},
			{first, second, lastSecond}, {second, lastSecond, first}, {lastSecond, second, first},
			{first, second, second, first, lastThird}, {lastThird, lastThird, first, second},
			{first, {from: 8, to: 9, last: true}}, {{from: 8, to: 15, last: true}, first},
		},
		piecesRefused: {
			// Again with other bytes.
			{first, {from: 0, to: 8, other: true}}, {second, {from: 8, to: 16, other: true}},
			{second, {from: 8, to: 16, last: true, other: true}}, {lastSecond, {from: 8, to: 16, last: true, other: true}},
			// An end at another place, told by the same stretch or another.
			{second, lastThird, lastSecond}, {lastThird, lastSecond}, {lastSecond, lastThird},
			{{from: 8, to: 17, last: true}, {from: 8, to: 18, last: true}}, {{from: 8, to: 18, last: true}, {from: 8, to: 17, last: true}},
			{lastFourth(), lastSecond}, {lastSecond, lastFourth()},
			// Beyond a known end.
			{lastSecond, third}, {lastSecond, {from: 24, to: 32}}, {{from: 8, to: 9, last: true}, third}, {{from: 8, to: 9, last: true}, second},
			// An end ahead of a piece that has come.
			{third, lastSecond}, {{from: 24, to: 32}, lastSecond}, {second, third, lastSecond}, {third, {from: 8, to: 15, last: true}},
			{second, {from: 8, to: 15, last: true}}, {first, third, lastSecond},
			// Overlaps by one byte, by eight, in one another, with one beginning or end.
			{third, {from: 8, to: 17, last: true}}, {{from: 8, to: 17, last: true}, third}, {{from: 8, to: 17, last: true}, {from: 16, to: 17, last: true}},
			{{from: 0, to: 16}, {from: 8, to: 24}}, {{from: 8, to: 24}, {from: 0, to: 16}},
			{{from: 0, to: 24}, second}, {second, {from: 0, to: 24}}, {first, {from: 0, to: 16}}, {{from: 0, to: 16}, first},
			{third, {from: 8, to: 24}}, {{from: 8, to: 24}, third}, {lastThird, {from: 8, to: 24, last: true}},
			{{from: 8, to: 24, last: true}, lastThird}, {lastThird, {from: 8, to: 24}}, {{from: 8, to: 24, last: true}, third},
			{first, third, {from: 8, to: 24}}, {first, third, {from: 0, to: 24}},
		},
	}
}

func lastFourth() testPiece { return testPiece{from: 24, to: 30, last: true} }

// sizeOf is how many bytes the pieces of different stretches have.
func sizeOf(pieces []testPiece) int64 {
	sizes := map[[2]int]int64{}
	for _, c := range pieces {
		sizes[[2]int{c.from, c.to}] = int64(c.to - c.from)
	}
	var n int64
	for _, size := range sizes {
		n += size
	}
	return n
}

// P12 among them: what is refused tells nothing and keeps no byte.
func TestReasmPieces(t *testing.T) {
	p := wholePacket(40)
	for outcome, cases := range pieceCases() {
		for _, c := range cases {
			var steps []reasmStep
			for i := range c {
				want := holding(1, sizeOf(c[:i+1]))
				if i == len(c)-1 && outcome == piecesDone {
					whole := p
					whole.Payload = p.Payload[:sizeOf(c)]
					want = doneWith(whole, 0, 0)
				} else if i == len(c)-1 && outcome == piecesRefused {
					want = holding(1, 0)
				}
				steps = append(steps, reasmStep{taking(c[i].of(p)), want})
			}
			if outcome == piecesRefused {
				steps = append(steps, afterRefusal(p)...)
			}
			checkReasm(t, steps...)
			if t.Failed() {
				t.Fatalf("pieces %+v", c)
			}
		}
	}
}

// afterRefusal: pieces that would be the whole come again and again, and count for nothing until the time is over.
func afterRefusal(p impl.Packet) []reasmStep {
	nothing := holding(1, 0)
	return []reasmStep{
		{taking(partOf(p, 0, 8, true)), nothing},
		{taking(partOf(p, 8, 40, false)), nothing},
		{taking(partOf(p, 0, 8, true)), nothing},
		{resting(patience - 1), nothing},
		{taking(partOf(p, 8, 40, false)), nothing},
		{taking(p), doneWith(p, 1, 0)},
		{resting(1), impl.ReasmOut{}},
		{taking(partOf(p, 0, 8, true)), holding(1, 8)},
		{taking(partOf(p, 8, 40, false)), doneWith(p, 0, 0)},
	}
}

// A piece without payload, and one with MF whose length is no multiple of 8, are told and begin nothing; beside another
// piece they change nothing.
func TestReasmAsksTheLength(t *testing.T) {
	p := wholePacket(1000)
	for n := range 40 {
		for _, more := range []bool{true, false} {
			checkLength(t, partOf(p, 16, 16+n, more), partOf(p, 0, 8, true))
			checkLength(t, partOf(p, 64, 64+n, more), partOf(p, 0, 8, true))
		}
		checkLength(t, partOf(p, 0, n, true), partOf(p, 400, 408, true))
	}
}

func checkLength(t *testing.T, f, other impl.Packet) {
	t.Helper()
	n := len(f.Payload)
	alone, beside := holding(1, int64(n)), holding(1, int64(n+8))
	if n == 0 || f.MF && n%8 != 0 {
		alone, beside = impl.ReasmOut{Code: impl.ErrLength}, impl.ReasmOut{Code: impl.ErrLength, Held: 1, Bytes: 8}
	}
	checkReasm(t, reasmStep{taking(f), alone})
	checkReasm(t, reasmStep{taking(other), holding(1, 8)}, reasmStep{taking(f), beside})
}

// An ill length beside a datagram in the making is no end of it, even where it would refuse it.
func TestReasmIllLengthsDoNothing(t *testing.T) {
	p := wholePacket(24)
	ill := impl.ReasmOut{Code: impl.ErrLength, Held: 1, Bytes: 8}
	checkReasm(t,
		reasmStep{taking(partOf(p, 0, 8, true)), holding(1, 8)},
		reasmStep{taking(partOf(p, 0, 7, true)), ill},
		reasmStep{taking(partOf(p, 8, 8, false)), ill},
		reasmStep{taking(partOf(p, 8, 8, true)), ill},
		reasmStep{taking(partOf(p, 0, 0, true)), ill},
		reasmStep{taking(partOf(p, 8, 24, false)), doneWith(p, 0, 0)},
	)
}

// The whole packet is the first fragment's in all but payload and MF, whatever the others say and whenever it comes.
func TestReasmFieldsAreTheFirsts(t *testing.T) {
	p := wholePacket(30)
	p.Tos, p.DF, p.TTL, p.Options = 200, true, 9, []byte{1, 1, 1, 0}
	other := wholePacket(30)
	other.Tos, other.TTL, other.Options = 100, 77, bytes.Repeat([]byte{1}, 40)
	parts := []impl.Packet{partOf(p, 0, 8, true), partOf(other, 8, 16, true), partOf(other, 16, 30, false)}
	for _, order := range orders(parts) {
		checkPutTogether(t, p, order)
	}
	// Of two equal first pieces the one that came first counts.
	checkPutTogether(t, p, []impl.Packet{parts[0], partOf(other, 0, 8, true), parts[2], parts[1]})
	checkPutTogether(t, other, []impl.Packet{partOf(other, 0, 8, true), parts[0], parts[2], parts[1]})
}

// Datagrams are known by source, destination, protocol and number: one other of these is another datagram.
func TestReasmKnowsDatagramsApart(t *testing.T) {
	p := wholePacket(24)
	for i, q := range namedPackets(p, 16) {
		if i == 0 {
			continue
		}
		for j := range q.Payload {
			q.Payload[j] ^= byte(i)
		}
		checkReasm(t,
			reasmStep{taking(partOf(p, 0, 16, true)), holding(1, 16)},
			reasmStep{taking(partOf(q, 8, 24, false)), holding(2, 32)},
			reasmStep{taking(partOf(p, 16, 24, false)), doneWith(p, 1, 16)},
			reasmStep{taking(partOf(q, 0, 8, true)), doneWith(q, 0, 0)},
		)
	}
}

// namedPackets are like p, each with a name of its own: of two some have but one number of four that differs.
func namedPackets(p impl.Packet, n int) []impl.Packet {
	var list []impl.Packet
	for i := range int64(n) {
		q := clonePacket(p)
		q.ID, q.Src, q.Dst, q.Proto = p.ID+i&1+i>>4*2, p.Src+i>>1&1, p.Dst-i>>2&1, p.Proto^i>>3&1
		list = append(list, q)
	}
	return list
}

// Fragments of fields that are no part of a name are of one datagram.
func TestReasmOtherFieldsAreNoName(t *testing.T) {
	p := wholePacket(16)
	q := p
	q.Tos, q.TTL, q.DF, q.Options = 0, 255, true, []byte{0, 0, 0, 0}
	checkReasm(t,
		reasmStep{taking(partOf(p, 0, 8, true)), holding(1, 8)},
		reasmStep{taking(partOf(q, 8, 16, false)), doneWith(p, 0, 0)},
	)
}

// The first packet's head and the whole payload may be MaxPacket bytes; with one more it is refused as soon as both
// are known, whichever comes last, and though bytes between are lacking.
func TestReasmBoundsTheWhole(t *testing.T) {
	for _, words := range []int{0, 1, 10} {
		for over := range 3 {
			n := impl.MaxPacket - shortestHead - 4*words + over
			p := wholePacket(n)
			first, middle, last := partOf(p, 0, 30000, true), partOf(p, 30000, 60000, true), partOf(p, 60000, n, false)
			first.Options = randomBytes(newChance(), 4*words)
			whole := p
			whole.Options = first.Options
			for _, order := range orders([]impl.Packet{first, middle, last}) {
				checkReasm(t, wholeSteps(order, whole, over > 0)...)
			}
		}
	}
}

func wholeSteps(order []impl.Packet, whole impl.Packet, tooLong bool) []reasmStep {
	var steps []reasmStep
	var size int64
	var first, end bool
	for i, f := range order {
		size += int64(len(f.Payload))
		first, end = first || f.Offset == 0, end || !f.MF
		want := holding(1, size)
		if first && end && tooLong {
			want = holding(1, 0)
		} else if i == len(order)-1 {
			want = doneWith(whole, 0, 0)
		}
		steps = append(steps, reasmStep{taking(f), want})
	}
	return steps
}

// The head of the first packet counts, not that of the others; without it nothing is too long.
func TestReasmBoundsByTheFirstHead(t *testing.T) {
	p := wholePacket(65515)
	options := bytes.Repeat([]byte{1}, 40)
	last := partOf(p, 60000, 65515, false)
	last.Options = options
	checkReasm(t,
		reasmStep{taking(last), holding(1, 5515)},
		reasmStep{taking(partOf(p, 0, 60000, true)), doneWith(p, 0, 0)},
	)
	p = wholePacket(65535)
	checkReasm(t,
		reasmStep{taking(partOf(p, 32768, 65535, false)), holding(1, 32767)},
		reasmStep{taking(partOf(p, 8, 32768, true)), holding(1, 65527)},
		reasmStep{taking(partOf(p, 0, 8, true)), holding(1, 0)},
	)
	// The same stretch, come again as the last one, tells the end that is too far.
	p = wholePacket(65480)
	first := partOf(p, 0, 40000, true)
	first.Options = options
	checkReasm(t,
		reasmStep{taking(first), holding(1, 40000)},
		reasmStep{taking(partOf(p, 40000, 65480, true)), holding(1, 65480)},
		reasmStep{taking(partOf(p, 40000, 65480, false)), holding(1, 0)},
		reasmStep{taking(partOf(p, 40000, 65480, false)), holding(1, 0)},
	)
}

// fullReasm begins as many datagrams as there may be, of 8 bytes each: those with an even place with their first packet.
func fullReasm() ([]impl.Packet, []reasmStep) {
	list := namedPackets(wholePacket(24), impl.MaxReasm+8)
	var steps []reasmStep
	for i, p := range list[:impl.MaxReasm] {
		f := partOf(p, i%2*8, i%2*8+8, true)
		steps = append(steps, reasmStep{taking(f), holding(int64(i+1), int64(8*(i+1)))})
	}
	return list, steps
}

// One datagram more than there may be: the one that was begun first is gone, and told.
func TestReasmOneDatagramBeyond(t *testing.T) {
	const most = impl.MaxReasm
	list, steps := fullReasm()
	ending := func(p impl.Packet, first bool) impl.ReasmOut {
		return impl.ReasmOut{Ended: []impl.ReasmEnd{endOf(p, first)}, Held: most, Bytes: 8 * most}
	}
	full := holding(most, 8*most)
	checkReasm(t, append(steps,
		// None of these begins another one.
		reasmStep{taking(list[most]), doneWith(list[most], most, 8*most)},
		reasmStep{taking(partOf(list[most], 8, 15, true)), impl.ReasmOut{Code: impl.ErrLength, Held: most, Bytes: 8 * most}},
		reasmStep{taking(partOf(list[0], 0, 8, true)), full},
		reasmStep{taking(impl.Packet{MF: true, ID: -1, Payload: make([]byte, 8)}), impl.ReasmOut{Code: impl.ErrForm, Held: most, Bytes: 8 * most}},
		reasmStep{taking(partOf(list[most], 8, 16, true)), ending(list[0], true)},
		reasmStep{taking(partOf(list[most+1], 8, 16, true)), ending(list[1], false)},
		// What is gone is begun anew, behind all others.
		reasmStep{taking(partOf(list[0], 8, 16, true)), ending(list[2], true)},
		reasmStep{taking(partOf(list[2], 8, 16, true)), ending(list[3], false)},
		// A datagram that is done leaves room for one.
		reasmStep{taking(partOf(list[4], 8, 24, false)), doneWith(list[4], most-1, 8*(most-1))},
		reasmStep{taking(partOf(list[most+2], 8, 16, true)), full},
		reasmStep{taking(partOf(list[most+3], 8, 16, true)), ending(list[5], false)},
	)...)
}

// A refused datagram takes up room like the others, counts no bytes, and is gone without being told.
func TestReasmRefusedOnesBeyond(t *testing.T) {
	const most = impl.MaxReasm
	list, steps := fullReasm()
	other := partOf(list[0], 0, 16, true)
	checkReasm(t, append(steps,
		reasmStep{taking(other), holding(most, 8*(most-1))},
		reasmStep{taking(partOf(list[2], 0, 16, true)), holding(most, 8*(most-2))},
		reasmStep{taking(partOf(list[most], 8, 16, true)), holding(most, 8*(most-1))},
		reasmStep{taking(partOf(list[most+1], 8, 16, true)), impl.ReasmOut{
			Ended: []impl.ReasmEnd{endOf(list[1], false)}, Held: most, Bytes: 8 * (most - 1),
		}},
		reasmStep{taking(partOf(list[most+2], 8, 16, true)), holding(most, 8*most)},
		reasmStep{taking(partOf(list[0], 0, 8, true)), impl.ReasmOut{
			Ended: []impl.ReasmEnd{endOf(list[3], false)}, Held: most, Bytes: 8 * most,
		}},
		// It was begun anew, so that it may be whole.
		reasmStep{taking(partOf(list[0], 8, 24, false)), doneWith(list[0], most-1, 8*(most-1))},
	)...)
}

// Which one is pushed out hangs on the order of beginning alone, at one time and at several, not on pieces or names.
func TestReasmPushesOutInOrder(t *testing.T) {
	chance := newChance()
	for range 50 {
		list := shuffled(chance, namedPackets(wholePacket(40), 3*impl.MaxReasm))
		var ops []impl.ReasmOp
		var begun, ended []impl.ReasmEnd
		for _, p := range list {
			at := chance.Intn(2) * 8
			ops = append(ops, taking(partOf(p, at, at+8, true)), resting(chance.Int63n(2)*chance.Int63n(100)))
			begun = append(begun, endOf(p, at == 0))
			// A later piece does not make it later.
			if chance.Intn(2) == 0 {
				ops = append(ops, taking(partOf(p, 16, 24, true)))
			}
		}
		for _, out := range runReasm(t, ops...) {
			ended = append(ended, out.Ended...)
		}
		if !slices.Equal(ended, begun[:2*impl.MaxReasm]) {
			t.Fatalf("ended %v, begun %v", ended, begun)
		}
	}
}

// A datagram ends 30000 behind its beginning, whatever has come since, and is told; its pieces are gone.
func TestReasmEndsInTime(t *testing.T) {
	p := wholePacket(24)
	for _, from := range []int{0, 8} {
		ended := impl.ReasmOut{Ended: []impl.ReasmEnd{endOf(p, from == 0)}}
		begin := reasmStep{taking(partOf(p, from, from+8, true)), holding(1, 8)}
		checkReasm(t, begin, reasmStep{resting(0), holding(1, 8)}, reasmStep{resting(patience - 1), holding(1, 8)},
			reasmStep{resting(0), holding(1, 8)}, reasmStep{resting(1), ended}, reasmStep{resting(1), impl.ReasmOut{}})
		checkReasm(t, begin, reasmStep{resting(patience), ended}, reasmStep{resting(patience), impl.ReasmOut{}})
		checkReasm(t, begin, reasmStep{resting(impl.MaxTime), ended})
		checkReasm(t, reasmStep{resting(5000), impl.ReasmOut{}}, begin,
			reasmStep{resting(patience - 1), holding(1, 8)},
			reasmStep{taking(partOf(p, 16, 24, true)), holding(1, 16)},
			reasmStep{resting(1), ended},
			reasmStep{taking(partOf(p, 16, 24, false)), holding(1, 8)},
			reasmStep{taking(partOf(p, 0, 16, true)), doneWith(p, 0, 0)},
		)
	}
	// Just ahead of its end it may still be whole.
	checkReasm(t,
		reasmStep{taking(partOf(p, 0, 8, true)), holding(1, 8)},
		reasmStep{resting(patience - 1), holding(1, 8)},
		reasmStep{taking(partOf(p, 8, 24, false)), doneWith(p, 0, 0)},
		reasmStep{resting(1), impl.ReasmOut{}},
	)
}

// Several end in the order in which they were begun, at one time too; refused ones are gone with them, untold.
func TestReasmSeveralEnd(t *testing.T) {
	list := shuffled(newChance(), namedPackets(wholePacket(24), 6))
	refusing := func(p impl.Packet) impl.ReasmOp { return taking(partOf(p, 0, 16, true)) }
	begin := func(i, from int) impl.ReasmOp { return taking(partOf(list[i], from, from+8, true)) }
	made := []reasmStep{
		{begin(3, 8), holding(1, 8)}, {begin(0, 0), holding(2, 16)}, {begin(5, 8), holding(3, 24)},
		{resting(10000), holding(3, 24)},
		{begin(1, 0), holding(4, 32)}, {begin(4, 0), holding(5, 40)},
		{refusing(list[0]), holding(5, 32)}, {refusing(list[1]), holding(5, 24)},
		{resting(5000), holding(5, 24)},
		{begin(2, 8), holding(6, 32)},
	}
	three, five, four, two := endOf(list[3], false), endOf(list[5], false), endOf(list[4], true), endOf(list[2], false)
	steps := func(more ...reasmStep) []reasmStep { return append(slices.Clone(made), more...) }
	checkReasm(t, steps(
		reasmStep{resting(14999), holding(6, 32)},
		reasmStep{resting(1), impl.ReasmOut{Ended: []impl.ReasmEnd{three, five}, Held: 3, Bytes: 16}},
		reasmStep{resting(9999), holding(3, 16)},
		reasmStep{resting(1), impl.ReasmOut{Ended: []impl.ReasmEnd{four}, Held: 1, Bytes: 8}},
		reasmStep{resting(4999), holding(1, 8)},
		reasmStep{resting(1), impl.ReasmOut{Ended: []impl.ReasmEnd{two}}},
	)...)
	checkReasm(t, steps(reasmStep{resting(29999), impl.ReasmOut{Ended: []impl.ReasmEnd{three, five, four}, Held: 1, Bytes: 8}})...)
	checkReasm(t, steps(reasmStep{resting(30000), impl.ReasmOut{Ended: []impl.ReasmEnd{three, five, four, two}}})...)
}

// Time goes up to MaxTime, and not back.
func TestReasmAsksTheTime(t *testing.T) {
	p := wholePacket(24)
	begin := reasmStep{taking(partOf(p, 0, 8, true)), holding(1, 8)}
	ill := impl.ReasmOut{Code: impl.ErrForm, Held: 1, Bytes: 8}
	ended := impl.ReasmOut{Ended: []impl.ReasmEnd{endOf(p, true)}}
	for _, wait := range []int64{-1, -2, math.MinInt64, impl.MaxTime + 1, math.MaxInt64, math.MaxInt64 - impl.MaxTime} {
		checkReasm(t, begin, reasmStep{resting(wait), ill}, reasmStep{resting(patience - 1), holding(1, 8)}, reasmStep{resting(1), ended})
	}
	checkReasm(t,
		reasmStep{resting(impl.MaxTime - patience), impl.ReasmOut{}}, begin,
		reasmStep{resting(patience + 1), ill}, reasmStep{resting(math.MaxInt64), ill},
		reasmStep{resting(patience - 1), holding(1, 8)}, reasmStep{resting(2), ill},
		reasmStep{resting(1), ended}, reasmStep{resting(1), impl.ReasmOut{Code: impl.ErrForm}}, reasmStep{resting(0), impl.ReasmOut{}},
		begin, reasmStep{resting(0), holding(1, 8)}, reasmStep{taking(partOf(p, 8, 24, false)), doneWith(p, 0, 0)},
	)
}

// What EncodeIP does not take is ErrForm, ahead of an ill length, and does nothing.
func TestReasmAsksThePacket(t *testing.T) {
	p := wholePacket(24)
	ill := impl.ReasmOut{Code: impl.ErrForm, Held: 1, Bytes: 8}
	for _, packet := range illPackets() {
		for _, more := range []bool{false, true} {
			packet.MF = more
			checkReasm(t,
				reasmStep{taking(packet), impl.ReasmOut{Code: impl.ErrForm}},
				reasmStep{taking(partOf(p, 0, 8, true)), holding(1, 8)},
				reasmStep{taking(packet), ill},
				reasmStep{taking(partOf(p, 8, 24, false)), doneWith(p, 0, 0)},
			)
		}
	}
	for _, n := range edgeNumbers() {
		q := partOf(p, 0, 8, true)
		q.ID = n
		want := holding(1, 8)
		if n < 0 || n > 65535 {
			want = impl.ReasmOut{Code: impl.ErrForm}
		}
		checkReasm(t, reasmStep{taking(q), want})
	}
}

// An operation's kind is one of two; what is not of its kind does not count.
func TestReasmKindsOfOperations(t *testing.T) {
	p := wholePacket(24)
	for _, kind := range append(edgeNumbers(), 0, 1, 2, 3, 4) {
		op := impl.ReasmOp{Kind: kind, Wait: patience, Packet: partOf(p, 8, 24, false)}
		want := impl.ReasmOut{Code: impl.ErrForm, Held: 1, Bytes: 8}
		switch kind {
		case impl.ReasmTake:
			op.Wait = -1
			want = doneWith(p, 0, 0)
		case impl.ReasmPass:
			op.Packet.ID = -1
			want = impl.ReasmOut{Ended: []impl.ReasmEnd{endOf(p, true)}}
		}
		checkReasm(t, reasmStep{taking(partOf(p, 0, 8, true)), holding(1, 8)}, reasmStep{op, want})
	}
}

// Too many operations are told, whatever they are.
func TestRunReasmBoundsItsOperations(t *testing.T) {
	p := wholePacket(24)
	for _, op := range []impl.ReasmOp{resting(5), taking(p), taking(partOf(p, 8, 16, true)), {}, resting(-1)} {
		for n, want := range map[int]int64{0: impl.OK, 1: impl.OK, impl.MaxOps - 1: impl.OK, impl.MaxOps: impl.OK, impl.MaxOps + 1: impl.ErrCount, 1 << 15: impl.ErrCount} {
			outs, code := impl.RunReasm(slices.Repeat([]impl.ReasmOp{op}, n))
			if code != want || want == impl.OK && len(outs) != n || want != impl.OK && len(outs) != 0 {
				t.Errorf("%d operations: %d answers, %d", n, len(outs), code)
			}
		}
	}
	if outs, code := impl.RunReasm(nil); code != impl.OK || len(outs) != 0 {
		t.Errorf("no operations: %v, %d", outs, code)
	}
}

// P11: of packets with numbers of their own all are told whose fragments have all come, and nothing else.
func TestReasmTellsWhatHasCome(t *testing.T) {
	chance := newChance()
	for range 300 {
		sent := namedPackets(wholePacket(1), 1+chance.Intn(14))
		lacking := map[impl.ReasmEnd]bool{}
		var came []impl.Packet
		for i := range sent {
			sent[i].Options = randomBytes(chance, 4*chance.Intn(11))
			sent[i].Payload = randomBytes(chance, chance.Intn(1500))
			list := shuffled(chance, cutAgain(t, chance, sent[i], leastMtu+chance.Int63n(200)))
			if chance.Intn(3) == 0 {
				lacking[endOf(sent[i], false)] = true
				list = slices.Delete(list, 0, 1+chance.Intn(len(list))/3)
			}
			came = append(came, list...)
			for range chance.Intn(4) * len(list) / 3 {
				came = append(came, list[chance.Intn(len(list))])
			}
		}
		if len(came) > impl.MaxOps {
			continue
		}
		checkToldPackets(t, sent, lacking, shuffled(chance, came))
	}
}

func checkToldPackets(t *testing.T, sent []impl.Packet, lacking map[impl.ReasmEnd]bool, came []impl.Packet) {
	t.Helper()
	told := map[impl.ReasmEnd]bool{}
	for i, out := range runReasm(t, takingAll(came)...) {
		if out.Code != impl.OK || len(out.Ended) != 0 || out.Done && !slices.ContainsFunc(sent, func(p impl.Packet) bool { return samePacket(p, out.Packet) }) {
			t.Fatalf("fragment %d of %d: %s", i, len(came), shortly(out))
		}
		if out.Done {
			told[endOf(out.Packet, false)] = true
		}
	}
	for _, p := range sent {
		if name := endOf(p, false); told[name] == lacking[name] {
			t.Fatalf("a packet is told: %v, lacks fragments: %v", told[name], lacking[name])
		}
	}
}

// P12: behind an overlap nothing of the datagram is told or kept until 30000 have passed since it was begun, while the
// others go on.
func TestReasmOverlapsLetNothingBeTold(t *testing.T) {
	chance := newChance()
	for range 300 {
		pair := namedPackets(wholePacket(100+chance.Intn(400)), 2)
		p, other := pair[0], pair[1]
		list := shuffled(chance, cutAgain(t, chance, p, leastMtu+chance.Int63n(100)))
		steps := len(p.Payload) / 8
		from := 8 * chance.Intn(steps-1)
		overlap := partOf(p, from, from+8*(1+chance.Intn(steps-from/8)), true)
		// All but one have come, and one that overlaps at least one of them in another stretch.
		came := slices.Concat(list[:len(list)-1], []impl.Packet{overlap})
		if !overlapsAnother(list[:len(list)-1], overlap) {
			continue
		}
		wait, ops := chance.Int63n(patience), takingAll(came)
		ops = append(ops, taking(list[len(list)-1]), resting(wait), taking(partOf(other, 0, 8, true)))
		ops = append(ops, takingAll(shuffled(chance, list))...)
		ops = append(ops, resting(patience-1-wait))
		ops = append(ops, takingAll(list)...)
		refused := len(came) - 1
		outs := runReasm(t, append(ops, taking(partOf(other, 8, len(other.Payload), false)), resting(1))...)
		for i, out := range outs[refused : len(outs)-2] {
			mine := out.Bytes
			if i+refused >= len(came)+2 {
				mine -= 8
			}
			if out.Done || mine != 0 || out.Held < 1 || len(out.Ended) != 0 {
				t.Fatalf("operation %d of %d, refused at %d: %+v", i+refused, len(outs), refused, out)
			}
		}
		if last := outs[len(outs)-2:]; !sameReasmOut(last[0], doneWith(other, 1, 0)) || !sameReasmOut(last[1], impl.ReasmOut{}) {
			t.Fatalf("%+v", last)
		}
	}
}

func overlapsAnother(list []impl.Packet, p impl.Packet) bool {
	return slices.ContainsFunc(list, func(q impl.Packet) bool {
		return len(overlapOf(p, q)) > 0 && (p.Offset != q.Offset || len(p.Payload) != len(q.Payload))
	})
}

// overlapOf are the bytes of p that stand at places of q.
func overlapOf(p, q impl.Packet) []byte {
	var list []byte
	for i, x := range p.Payload {
		if at := p.Offset + int64(i) - q.Offset; at >= 0 && at < int64(len(q.Payload)) {
			list = append(list, x)
		}
	}
	return list
}

// modelDatagram and modelReasm are the putting together once more, built otherwise: lists of the packets that came,
// and every one of the document's reasons by itself.
type modelDatagram struct {
	name    impl.ReasmEnd
	begun   int64
	refused bool
	pieces  []impl.Packet
	end     int64
}

type modelReasm struct {
	now  int64
	list []modelDatagram
}

func (d *modelDatagram) first() int {
	return slices.IndexFunc(d.pieces, func(p impl.Packet) bool { return p.Offset == 0 })
}

func (d *modelDatagram) mustRefuse(p impl.Packet, again bool) bool {
	to := p.Offset + int64(len(p.Payload))
	for _, q := range d.pieces {
		if !again && len(overlapOf(p, q)) > 0 || !p.MF && q.Offset+int64(len(q.Payload)) > to {
			return true
		}
	}
	return d.end > 0 && (to > d.end || !p.MF && to != d.end)
}

func (d *modelDatagram) take(p impl.Packet) {
	again := slices.ContainsFunc(d.pieces, func(q impl.Packet) bool { return p.Offset == q.Offset && bytes.Equal(p.Payload, q.Payload) })
	if d.refused || d.mustRefuse(p, again) {
		d.refused, d.pieces, d.end = true, nil, 0
		return
	}
	if !again {
		d.pieces = append(d.pieces, p)
	}
	if !p.MF {
		d.end = p.Offset + int64(len(p.Payload))
	}
	if at := d.first(); at >= 0 && d.end > 0 && 20+int64(len(d.pieces[at].Options))+d.end > 65535 {
		d.refused, d.pieces, d.end = true, nil, 0
	}
}

// joined is the payload as far as it has come without a gap.
func (d *modelDatagram) joined() []byte {
	var all []byte
	for range d.pieces {
		for _, p := range d.pieces {
			if p.Offset == int64(len(all)) {
				all = append(all, p.Payload...)
			}
		}
	}
	return all
}

func (m *modelReasm) drop(at int, out *impl.ReasmOut) {
	if d := m.list[at]; !d.refused {
		d.name.First = d.first() >= 0
		out.Ended = append(out.Ended, d.name)
	}
	m.list = slices.Delete(m.list, at, at+1)
}

func (m *modelReasm) take(p impl.Packet, out *impl.ReasmOut) {
	name := endOf(p, false)
	at := slices.IndexFunc(m.list, func(d modelDatagram) bool { return d.name == name })
	if at < 0 {
		if len(m.list) == impl.MaxReasm {
			m.drop(0, out)
		}
		m.list = append(m.list, modelDatagram{name: name, begun: m.now})
		at = len(m.list) - 1
	}
	d := &m.list[at]
	d.take(p)
	if all := d.joined(); d.end > 0 && int64(len(all)) == d.end {
		out.Done, out.Packet = true, d.pieces[d.first()]
		out.Packet.MF, out.Packet.Payload = false, all
		m.list = slices.Delete(m.list, at, at+1)
	}
}

func (m *modelReasm) pass(wait int64, out *impl.ReasmOut) {
	m.now += wait
	for at := 0; at < len(m.list); {
		if m.list[at].begun+patience <= m.now {
			m.drop(at, out)
		} else {
			at++
		}
	}
}

func (m *modelReasm) do(op impl.ReasmOp) impl.ReasmOut {
	var out impl.ReasmOut
	_, code := impl.EncodeIP(op.Packet)
	n := len(op.Packet.Payload)
	switch {
	case op.Kind == impl.ReasmPass && op.Wait >= 0 && op.Wait <= impl.MaxTime && m.now+op.Wait <= impl.MaxTime:
		m.pass(op.Wait, &out)
	case op.Kind != impl.ReasmTake || code != impl.OK:
		out.Code = impl.ErrForm
	case op.Packet.Offset == 0 && !op.Packet.MF:
		out.Done, out.Packet = true, op.Packet
	case n == 0 || op.Packet.MF && n%8 != 0:
		out.Code = impl.ErrLength
	default:
		m.take(op.Packet, &out)
	}
	out.Held = int64(len(m.list))
	for _, d := range m.list {
		for _, p := range d.pieces {
			out.Bytes += int64(len(p.Payload))
		}
	}
	return out
}

// reasmScript is a random one: few names or more than there may be datagrams, fragments of one packet for each name,
// now and then a piece of another stretch, with other bytes or another end, and an operation that is not valid.
func reasmScript(chance *rand.Rand) []impl.ReasmOp {
	names := namedPackets(wholePacket(8+chance.Intn(60)), 1+chance.Intn(24))
	odd, passes := chance.Intn(30), chance.Intn(20)
	var ops []impl.ReasmOp
	for range 1 + chance.Intn(250) {
		p := names[chance.Intn(len(names))]
		steps := (len(p.Payload) + 7) / 8
		from := chance.Intn(steps)
		to := min(from+1, steps)
		roll := chance.Intn(100)
		if roll < odd {
			to = from + 1 + chance.Intn(steps-from)
		}
		f := partOf(p, 8*from, min(8*to, len(p.Payload)), to < steps)
		switch {
		case roll < odd && chance.Intn(4) == 0:
			f = testPiece{from: 8 * from, to: min(8*to, len(p.Payload)), last: chance.Intn(2) == 0, other: chance.Intn(2) == 0}.of(p)
		case roll < odd && chance.Intn(8) == 0:
			f = []impl.Packet{p, partOf(p, 8*from, 8*from, false), partOf(p, 0, 7, true), illPackets()[chance.Intn(len(illPackets()))]}[chance.Intn(4)]
		}
		f.TTL, f.Options = chance.Int63n(256), randomBytes(chance, 4*chance.Intn(3))
		op := taking(f)
		if roll >= 100-passes {
			waits := []int64{0, 1, 5000, 14999, 15000, 29999, 30000, -1, impl.MaxTime}
			op = resting(waits[chance.Intn(2+chance.Intn(len(waits)-1))])
		}
		ops = append(ops, op)
	}
	return ops
}

func TestReasmAnswersAsTheModel(t *testing.T) {
	chance := newChance()
	seen := map[string]int{}
	for range 1500 {
		ops := reasmScript(chance)
		var m modelReasm
		for i, out := range runReasm(t, ops...) {
			before := len(m.list)
			if want := m.do(ops[i]); !sameReasmOut(out, want) {
				t.Fatalf("operation %d of %d, %s: %s, not %s", i, len(ops), shortly(ops[i]), shortly(out), shortly(want))
			}
			countOutcome(seen, ops[i], out, before)
		}
	}
	for _, what := range []string{"put together", "pushed out", "over", "ill", "ill length", "whole"} {
		if seen[what] < 100 {
			t.Errorf("%s: %d times", what, seen[what])
		}
	}
}

func countOutcome(seen map[string]int, op impl.ReasmOp, out impl.ReasmOut, before int) {
	switch {
	case out.Done && out.Held < int64(before):
		seen["put together"]++
	case out.Done:
		seen["whole"]++
	case len(out.Ended) > 0 && op.Kind == impl.ReasmTake:
		seen["pushed out"]++
	case len(out.Ended) > 0:
		seen["over"]++
	case out.Code == impl.ErrForm:
		seen["ill"]++
	case out.Code == impl.ErrLength:
		seen["ill length"]++
	}
}

// P51: as many operations as there may be end, with as many pieces of one datagram, and with great ones.
func TestReasmLongRuns(t *testing.T) {
	p, q := wholePacket(8*impl.MaxOps), wholePacket(60000)
	var small, great []impl.ReasmOp
	for i := range impl.MaxOps {
		small = append(small, taking(partOf(p, 8*i, 8*i+8, i < impl.MaxOps-1)))
		q.ID = int64(i / 2)
		great = append(great, taking(partOf(q, i%2*32000, 32000+i%2*28000, i%2 == 0)))
	}
	outs := runReasm(t, shuffled(newChance(), small)...)
	if last := outs[len(outs)-1]; !sameReasmOut(last, doneWith(p, 0, 0)) {
		t.Errorf("%d pieces: %s", len(outs), shortly(last))
	}
	for i, out := range runReasm(t, great...) {
		if out.Done != (i%2 == 1) {
			t.Fatalf("operation %d: %s", i, shortly(out))
		}
	}
}

// P51: whatever the numbers of an operation are, a run ends, and answers the same again.
func TestReasmAnswersTheSameAgain(t *testing.T) {
	chance := newChance()
	numbers := append(edgeNumbers(), 1, 2, 8, 16)
	pick := func() int64 {
		if chance.Intn(3) > 0 {
			return []int64{0, 1, 2, 8}[chance.Intn(4)]
		}
		return numbers[chance.Intn(len(numbers))]
	}
	for range 500 {
		var ops []impl.ReasmOp
		for range chance.Intn(30) {
			ops = append(ops, impl.ReasmOp{Kind: pick(), Wait: pick(), Packet: impl.Packet{
				Tos: pick(), ID: pick(), DF: chance.Intn(2) == 1, MF: chance.Intn(2) == 1, Offset: pick(), TTL: pick(), Proto: pick(),
				Src: pick(), Dst: pick(), Options: randomBytes(chance, chance.Intn(2)*chance.Intn(50)), Payload: randomBytes(chance, 4*chance.Intn(10)),
			}})
		}
		if !sameReasmOuts(runReasm(t, ops...), runReasm(t, ops...)) {
			t.Fatalf("two answers for %+v", ops)
		}
	}
}

func cloneReasmOuts(outs []impl.ReasmOut) []impl.ReasmOut {
	list := slices.Clone(outs)
	for i := range list {
		list[i].Packet = clonePacket(outs[i].Packet)
		list[i].Ended = slices.Clone(outs[i].Ended)
	}
	return list
}

// roomyPacket has its lists in memory of its own, with room behind them.
func roomyPacket(p impl.Packet) impl.Packet {
	p.Options = append(append(make([]byte, 0, len(p.Options)+8), p.Options...), 1, 2, 3, 4)[:len(p.Options)]
	p.Payload = append(append(make([]byte, 0, len(p.Payload)+8), p.Payload...), 5, 6, 7, 8)[:len(p.Payload)]
	return p
}

func withRoom(b []byte) []byte { return b[:cap(b)] }

func samePacketWithRoom(a, b impl.Packet) bool {
	return samePacket(a, b) && bytes.Equal(withRoom(a.Options), withRoom(b.Options)) && bytes.Equal(withRoom(a.Payload), withRoom(b.Payload))
}

func roomyOps(ops []impl.ReasmOp) []impl.ReasmOp {
	room := slices.Clone(ops)
	for i := range room {
		room[i].Packet = roomyPacket(room[i].Packet)
	}
	return room
}

func sameWithRoom(a, b []impl.ReasmOp) bool {
	return slices.EqualFunc(a, b, func(x, y impl.ReasmOp) bool {
		return x.Kind == y.Kind && x.Wait == y.Wait && samePacketWithRoom(x.Packet, y.Packet)
	})
}

// P51: a run changes none of its operations, their spare room included, and no two of its lists share memory.
func TestRunReasmSharesNothing(t *testing.T) {
	chance := newChance()
	for range 150 {
		script := reasmScript(chance)
		ops, kept := roomyOps(script), roomyOps(script)
		outs := runReasm(t, ops...)
		told, again := cloneReasmOuts(outs), runReasm(t, ops...)
		if !sameReasmOuts(again, told) {
			t.Fatal("another answer the second time")
		}
		for i := range outs {
			out := &outs[i]
			spoil(out.Packet.Options, 99)
			spoil(out.Ended, impl.ReasmEnd{ID: -1})
			out.Packet.Options, out.Ended = told[i].Packet.Options, told[i].Ended
			if !sameReasmOut(*out, told[i]) {
				t.Fatalf("the options of answer %d are in its payload's memory", i)
			}
			spoil(out.Packet.Payload, 98)
			// Spoilt lists are taken out of the comparison: all the others must be as they were.
			if out.Packet.Payload = told[i].Packet.Payload; !sameReasmOuts(outs, told) {
				t.Fatalf("a list of answer %d shares memory with another one", i)
			}
		}
		if !sameWithRoom(ops, kept) {
			t.Fatal("the operations have been changed")
		}
		for i := range ops {
			spoil(ops[i].Packet.Options, 97)
			spoil(ops[i].Packet.Payload, 96)
		}
		if !sameReasmOuts(again, told) {
			t.Fatal("an answer is in an operation's memory")
		}
	}
}
