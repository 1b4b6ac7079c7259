package tests

import (
	"bytes"
	"cmp"
	"encoding/binary"
	"math"
	"math/rand"
	"slices"
	"testing"

	"loop.example/g00003/impl"
)

const (
	arpBytes = 28
	ownMac   = 0x02000000AA01
	ownAddr  = 10<<24 + 1
	// near is the first of addresses that a cache may hold.
	near = 10<<24 + 100
)

func ownCache() impl.ArpConfig { return impl.ArpConfig{Mac: ownMac, Addr: ownAddr} }

// plainArp is a valid Arp's bytes, written apart from the program.
func plainArp(a impl.Arp) []byte {
	b := []byte{0, 1, 8, 0, 6, 4}
	b = binary.BigEndian.AppendUint16(b, uint16(a.Op))
	b = binary.BigEndian.AppendUint16(b, uint16(a.SenderMac>>32))
	b = binary.BigEndian.AppendUint32(b, uint32(a.SenderMac))
	b = binary.BigEndian.AppendUint32(b, uint32(a.Sender))
	b = binary.BigEndian.AppendUint16(b, uint16(a.TargetMac>>32))
	b = binary.BigEndian.AppendUint32(b, uint32(a.TargetMac))
	return binary.BigEndian.AppendUint32(b, uint32(a.Target))
}

func randomArp(chance *rand.Rand) impl.Arp {
	return impl.Arp{
		Op: 1 + chance.Int63n(2), SenderMac: chance.Int63n(lastMac + 1), Sender: chance.Int63n(lastAddr + 1),
		TargetMac: chance.Int63n(lastMac + 1), Target: chance.Int63n(lastAddr + 1),
	}
}

// someArps are valid: numbers at both ends of their ranges, and between.
func someArps() []impl.Arp {
	chance := newChance()
	var list []impl.Arp
	for _, op := range []int64{impl.ArpRequest, impl.ArpReply} {
		list = append(list, impl.Arp{Op: op}, impl.Arp{Op: op, SenderMac: lastMac, Sender: lastAddr, TargetMac: lastMac, Target: lastAddr})
		for _, mac := range []int64{0, 1, 255, 256, 1 << 32, 1 << 40, 1 << 47, lastMac - 1, lastMac} {
			list = append(list, impl.Arp{Op: op, SenderMac: mac}, impl.Arp{Op: op, TargetMac: mac})
		}
		for _, addr := range []int64{0, 1, 255, 256, 1 << 24, 1 << 31, lastAddr - 1, lastAddr} {
			list = append(list, impl.Arp{Op: op, Sender: addr}, impl.Arp{Op: op, Target: addr})
		}
	}
	for range 300 {
		list = append(list, randomArp(chance))
	}
	return list
}

func TestArpBytes(t *testing.T) {
	a := impl.Arp{Op: impl.ArpReply, SenderMac: 0x090A0B0C0D0E, Sender: 0x0F101112, TargetMac: 0x131415161718, Target: 0x191A1B1C}
	want := []byte{0, 1, 8, 0, 6, 4, 0, 2, 9, 10, 11, 12, 13, 14, 15, 16, 17, 18, 19, 20, 21, 22, 23, 24, 25, 26, 27, 28}
	if b, code := impl.EncodeArp(a); !bytes.Equal(b, want) || code != impl.OK {
		t.Errorf("EncodeArp(%v): %x, %d, not %x", a, b, code, want)
	}
	for _, a := range someArps() {
		if b, code := impl.EncodeArp(a); !bytes.Equal(b, plainArp(a)) || code != impl.OK {
			t.Errorf("EncodeArp(%v): %x, %d, not %x", a, b, code, plainArp(a))
		}
	}
}

// P6: valid Arps come back from their bytes.
func TestArpsComeBack(t *testing.T) {
	for _, a := range someArps() {
		b, _ := impl.EncodeArp(a)
		if got, code := impl.DecodeArp(b); got != a || code != impl.OK {
			t.Errorf("DecodeArp(%x): %v, %d, not %v", b, got, code, a)
		}
		if got, code := impl.DecodeArp(plainArp(a)); got != a || code != impl.OK {
			t.Errorf("DecodeArp(%x): %v, %d, not %v", plainArp(a), got, code, a)
		}
	}
}

func TestEncodeArpAsksItsNumbers(t *testing.T) {
	for _, n := range append(edgeNumbers(), 1, 2, 3, 4) {
		isOp, isMac, isAddr := n == 1 || n == 2, n >= 0 && n <= lastMac, n >= 0 && n <= lastAddr
		for _, c := range []struct {
			a     impl.Arp
			valid bool
		}{
			{impl.Arp{Op: n, SenderMac: 1, Sender: 2, TargetMac: 3, Target: 4}, isOp},
			{impl.Arp{Op: 1, SenderMac: n, Sender: 2, TargetMac: 3, Target: 4}, isMac},
			{impl.Arp{Op: 2, SenderMac: 1, Sender: n, TargetMac: 3, Target: 4}, isAddr},
			{impl.Arp{Op: 1, SenderMac: 1, Sender: 2, TargetMac: n, Target: 4}, isMac},
			{impl.Arp{Op: 2, SenderMac: 1, Sender: 2, TargetMac: 3, Target: n}, isAddr},
			{impl.Arp{Op: n, SenderMac: n, Sender: n, TargetMac: n, Target: n}, isOp},
		} {
			b, code := impl.EncodeArp(c.a)
			if c.valid && (code != impl.OK || !bytes.Equal(b, plainArp(c.a))) || !c.valid && (code != impl.ErrForm || len(b) != 0) {
				t.Errorf("EncodeArp(%v): %x, %d", c.a, b, code)
			}
			outs, code := impl.RunArp(ownCache(), []impl.ArpOp{{Kind: impl.ArpHear, Arp: c.a}})
			if code != impl.OK || len(outs) != 1 || (outs[0].Code == impl.OK) != c.valid || outs[0].Code != impl.OK && outs[0].Code != impl.ErrForm {
				t.Errorf("%v heard: %v, %d", c.a, outs, code)
			}
		}
	}
}

func checkDecodeArp(t *testing.T, b []byte, want int64) {
	t.Helper()
	a, code := impl.DecodeArp(b)
	if code != want || code != impl.OK && a != (impl.Arp{}) || code == impl.OK && !bytes.Equal(plainArp(a), b) {
		t.Errorf("DecodeArp of %d bytes %.60x: %v, %d, not %d", len(b), b, a, code, want)
	}
}

// A length that cannot be is told ahead of what the bytes say, and is told with right ones, too.
func TestDecodeArpTellsTheFirstError(t *testing.T) {
	right := append(plainArp(randomArp(newChance())), make([]byte, 1<<16)...)
	wrong := bytes.Repeat([]byte{255}, len(right))
	checkDecodeArp(t, nil, impl.ErrShort)
	for n := range 100 {
		want, ill := int64(impl.OK), int64(impl.ErrType)
		if n < arpBytes {
			want, ill = impl.ErrShort, impl.ErrShort
		} else if n > arpBytes {
			want, ill = impl.ErrLength, impl.ErrLength
		}
		checkDecodeArp(t, right[:n], want)
		checkDecodeArp(t, wrong[:n], ill)
		checkDecodeArp(t, make([]byte, n), ill)
	}
	checkDecodeArp(t, right, impl.ErrLength)
	checkDecodeArp(t, wrong, impl.ErrLength)
}

func TestDecodeArpAsksItsFirstBytes(t *testing.T) {
	for _, a := range []impl.Arp{{Op: 1}, {Op: 2, SenderMac: lastMac, Sender: lastAddr, TargetMac: lastMac, Target: lastAddr}} {
		for i := range 6 {
			for x := range 256 {
				b := plainArp(a)
				want := int64(impl.ErrType)
				if b[i] == byte(x) {
					want = impl.OK
				}
				b[i] = byte(x)
				checkDecodeArp(t, b, want)
			}
		}
	}
}

func TestDecodeArpAsksItsOp(t *testing.T) {
	for op := range int64(65536) {
		want := int64(impl.ErrType)
		if op == impl.ArpRequest || op == impl.ArpReply {
			want = impl.OK
		}
		checkDecodeArp(t, plainArp(impl.Arp{Op: op, SenderMac: 1, Sender: 2, TargetMac: 3, Target: 4}), want)
	}
}

// P51: EncodeArp and DecodeArp answer the same again, in memory of its own, and leave their bytes as they are.
func TestArpBytesAreNobodyElses(t *testing.T) {
	for _, a := range someArps() {
		b, _ := impl.EncodeArp(a)
		again, _ := impl.EncodeArp(a)
		clear(again[:cap(again)])
		if !bytes.Equal(b, plainArp(a)) {
			t.Fatalf("two answers of EncodeArp(%v) share memory", a)
		}
		room := append(append([]byte{9, 9}, b...), 7, 7, 7, 7)
		kept := bytes.Clone(room)
		for n := range arpBytes + 3 {
			first, code := impl.DecodeArp(room[2 : 2+n])
			second, codeAgain := impl.DecodeArp(bytes.Clone(room[2 : 2+n]))
			if first != second || code != codeAgain || !bytes.Equal(room, kept) {
				t.Fatalf("DecodeArp of %d bytes: %v, %d, then %v, %d; %x", n, first, code, second, codeAgain, room)
			}
		}
	}
}

func sendTo(addr, packet int64) impl.ArpOp {
	return impl.ArpOp{Kind: impl.ArpSend, Addr: addr, Packet: packet}
}

func hearOf(a impl.Arp) impl.ArpOp { return impl.ArpOp{Kind: impl.ArpHear, Arp: a} }

// replyFrom is a reply to the own addresses.
func replyFrom(addr, mac int64) impl.ArpOp {
	return hearOf(impl.Arp{Op: impl.ArpReply, SenderMac: mac, Sender: addr, TargetMac: ownMac, Target: ownAddr})
}

// requestFrom asks for target.
func requestFrom(addr, mac, target int64) impl.ArpOp {
	return hearOf(impl.Arp{Op: impl.ArpRequest, SenderMac: mac, Sender: addr, Target: target})
}

func passing(wait int64) impl.ArpOp { return impl.ArpOp{Kind: impl.ArpPass, Wait: wait} }

func asks(addrs ...int64) []impl.Arp {
	var list []impl.Arp
	for _, addr := range addrs {
		list = append(list, impl.Arp{Op: impl.ArpRequest, SenderMac: ownMac, Sender: ownAddr, Target: addr})
	}
	return list
}

func tells(addr, mac int64) []impl.Arp {
	return []impl.Arp{{Op: impl.ArpReply, SenderMac: ownMac, Sender: ownAddr, TargetMac: mac, Target: addr}}
}

func released(mac int64, packets ...int64) []impl.ArpRelease {
	var list []impl.ArpRelease
	for _, packet := range packets {
		list = append(list, impl.ArpRelease{Packet: packet, Mac: mac})
	}
	return list
}

func sameArpOut(a, b impl.ArpOut) bool {
	return a.Code == b.Code && a.Entries == b.Entries && a.Waiting == b.Waiting &&
		slices.Equal(a.Sent, b.Sent) && slices.Equal(a.Released, b.Released) && slices.Equal(a.Dropped, b.Dropped)
}

func sameArpOuts(a, b []impl.ArpOut) bool { return slices.EqualFunc(a, b, sameArpOut) }

func runOwnCache(ops []impl.ArpOp) ([]impl.ArpOut, int64) { return impl.RunArp(ownCache(), ops) }

func runCache(t *testing.T, ops ...impl.ArpOp) []impl.ArpOut {
	t.Helper()
	return runAll(t, runOwnCache, ops)
}

type arpStep = step[impl.ArpOp, impl.ArpOut]

func checkSteps(t *testing.T, steps ...arpStep) {
	t.Helper()
	checkRunOf(t, runOwnCache, sameArpOut, steps)
}

func TestArpPacketsWaitAndAreReleased(t *testing.T) {
	checkSteps(t,
		arpStep{sendTo(near, 1), impl.ArpOut{Sent: asks(near), Entries: 1, Waiting: 1}},
		arpStep{sendTo(near, 2), impl.ArpOut{Entries: 1, Waiting: 2}},
		arpStep{sendTo(near+1, 3), impl.ArpOut{Sent: asks(near + 1), Entries: 2, Waiting: 3}},
		arpStep{sendTo(near, 4), impl.ArpOut{Entries: 2, Waiting: 4}},
		arpStep{replyFrom(near, 77), impl.ArpOut{Released: released(77, 1, 2, 4), Entries: 2, Waiting: 1}},
		arpStep{sendTo(near, 5), impl.ArpOut{Released: released(77, 5), Entries: 2, Waiting: 1}},
		arpStep{replyFrom(near, 78), impl.ArpOut{Entries: 2, Waiting: 1}},
		arpStep{sendTo(near, 6), impl.ArpOut{Released: released(78, 6), Entries: 2, Waiting: 1}},
		arpStep{sendTo(near+1, 7), impl.ArpOut{Entries: 2, Waiting: 2}},
		arpStep{replyFrom(near+1, 0), impl.ArpOut{Released: released(0, 3, 7), Entries: 2}},
		arpStep{sendTo(near+1, 8), impl.ArpOut{Released: released(0, 8), Entries: 2}},
		arpStep{replyFrom(near+1, lastMac), impl.ArpOut{Entries: 2}},
		arpStep{sendTo(near+1, 9), impl.ArpOut{Released: released(lastMac, 9), Entries: 2}},
	)
}

// The fifth packet that waits pushes out the first.
func TestArpFourPacketsWait(t *testing.T) {
	checkSteps(t,
		arpStep{sendTo(near, 11), impl.ArpOut{Sent: asks(near), Entries: 1, Waiting: 1}},
		arpStep{sendTo(near, 12), impl.ArpOut{Entries: 1, Waiting: 2}},
		arpStep{sendTo(near, 13), impl.ArpOut{Entries: 1, Waiting: 3}},
		arpStep{sendTo(near, 14), impl.ArpOut{Entries: 1, Waiting: 4}},
		arpStep{sendTo(near+9, 21), impl.ArpOut{Sent: asks(near + 9), Entries: 2, Waiting: 5}},
		arpStep{sendTo(near, 15), impl.ArpOut{Dropped: []int64{11}, Entries: 2, Waiting: 5}},
		arpStep{sendTo(near, 16), impl.ArpOut{Dropped: []int64{12}, Entries: 2, Waiting: 5}},
		arpStep{sendTo(near+9, 22), impl.ArpOut{Entries: 2, Waiting: 6}},
		arpStep{replyFrom(near, 5), impl.ArpOut{Released: released(5, 13, 14, 15, 16), Entries: 2, Waiting: 2}},
		arpStep{replyFrom(near+9, 6), impl.ArpOut{Released: released(6, 21, 22), Entries: 2}},
	)
}

// A packet's number is any number, one that another packet has too.
func TestArpPacketsOfAnyNumber(t *testing.T) {
	checkSteps(t,
		arpStep{sendTo(near, math.MinInt64), impl.ArpOut{Sent: asks(near), Entries: 1, Waiting: 1}},
		arpStep{sendTo(near, math.MaxInt64), impl.ArpOut{Entries: 1, Waiting: 2}},
		arpStep{sendTo(near, 0), impl.ArpOut{Entries: 1, Waiting: 3}},
		arpStep{sendTo(near, 0), impl.ArpOut{Entries: 1, Waiting: 4}},
		arpStep{sendTo(near, -1), impl.ArpOut{Dropped: []int64{math.MinInt64}, Entries: 1, Waiting: 4}},
		arpStep{replyFrom(near, 9), impl.ArpOut{Released: released(9, math.MaxInt64, 0, 0, -1), Entries: 1}},
		arpStep{sendTo(near, 0), impl.ArpOut{Released: released(9, 0), Entries: 1}},
	)
}

func TestArpSendsToHostsAlone(t *testing.T) {
	addrs := append(edgeNumbers(), ownAddr, ownAddr-1, ownAddr+1, near)
	for _, edge := range []int64{0x7F000000, 0x7FFFFFFF, 0xDFFFFFFF, 0xE0000000, 0xEFFFFFFF, 0xF0000000, 0xFFFFFFFF} {
		addrs = append(addrs, edge-1, edge, edge+1)
	}
	for _, addr := range addrs {
		isHost := addr > 0 && addr < 0x7F000000 || addr > 0x7FFFFFFF && addr < 0xE0000000
		want := impl.ArpOut{Sent: asks(addr), Entries: 1, Waiting: 1}
		if !isHost || addr == ownAddr {
			want = impl.ArpOut{Code: impl.ErrForm}
		}
		checkSteps(t, arpStep{sendTo(addr, 1), want})
		// Nothing comes of an Arp from any other address, either.
		if addr < 0 || addr > lastAddr {
			continue
		}
		want = impl.ArpOut{Sent: tells(addr, 8), Entries: 1}
		if !isHost || addr == ownAddr {
			want = impl.ArpOut{}
		}
		checkSteps(t, arpStep{requestFrom(addr, 8, ownAddr), want})
	}
}

// A try falls due 1000 behind the one ahead of it; behind the third there is none.
func TestArpAsksThreeTimes(t *testing.T) {
	one := impl.ArpOut{Entries: 1, Waiting: 2}
	again := impl.ArpOut{Sent: asks(near), Entries: 1, Waiting: 2}
	checkSteps(t,
		arpStep{passing(12345), impl.ArpOut{}},
		arpStep{sendTo(near, 1), impl.ArpOut{Sent: asks(near), Entries: 1, Waiting: 1}},
		arpStep{passing(0), impl.ArpOut{Entries: 1, Waiting: 1}},
		arpStep{passing(500), impl.ArpOut{Entries: 1, Waiting: 1}},
		// A packet behind the first one makes no new try.
		arpStep{sendTo(near, 2), one},
		arpStep{passing(499), one},
		arpStep{passing(1), again},
		arpStep{passing(0), one},
		arpStep{passing(999), one},
		arpStep{passing(1), again},
		arpStep{passing(999), one},
		arpStep{passing(1), impl.ArpOut{Dropped: []int64{1, 2}}},
		arpStep{passing(100000), impl.ArpOut{}},
		arpStep{sendTo(near, 3), impl.ArpOut{Sent: asks(near), Entries: 1, Waiting: 1}},
		arpStep{passing(2999), impl.ArpOut{Sent: asks(near, near), Entries: 1, Waiting: 1}},
		arpStep{passing(1), impl.ArpOut{Dropped: []int64{3}}},
	)
}

// However late in its tries an entry is told, it is known; once it has ended it is not.
func TestArpToldAtEachTry(t *testing.T) {
	for _, wait := range []int64{0, 1, 999, 1000, 1001, 1999, 2000, 2999} {
		outs := runCache(t, sendTo(near, 1), passing(wait), replyFrom(near, 6), sendTo(near, 2), passing(59999), passing(1))
		if len(outs[1].Sent) != int(wait/1000) || !slices.Equal(outs[2].Released, released(6, 1)) || !slices.Equal(outs[3].Released, released(6, 2)) {
			t.Errorf("told behind %d: %+v", wait, outs)
		}
		if outs[4].Entries != 1 || len(outs[4].Sent) != 0 || !sameArpOut(outs[5], impl.ArpOut{}) {
			t.Errorf("known from %d on: %+v, %+v", wait, outs[4], outs[5])
		}
	}
	for _, wait := range []int64{3000, 3001, 100000} {
		checkSteps(t,
			arpStep{sendTo(near, 1), impl.ArpOut{Sent: asks(near), Entries: 1, Waiting: 1}},
			arpStep{passing(wait), impl.ArpOut{Sent: asks(near, near), Dropped: []int64{1}}},
			arpStep{replyFrom(near, 6), impl.ArpOut{}},
		)
	}
}

// P9: an entry is known for 60000, and asks anew behind that.
func TestArpKnownEntryEnds(t *testing.T) {
	made := []arpStep{
		{sendTo(near, 1), impl.ArpOut{Sent: asks(near), Entries: 1, Waiting: 1}},
		{passing(700), impl.ArpOut{Entries: 1, Waiting: 1}},
		{replyFrom(near, 6), impl.ArpOut{Released: released(6, 1), Entries: 1}},
	}
	for _, wait := range []int64{0, 1, 300, 59999, 60000, 60001, impl.MaxTime - 700} {
		passed, sent := impl.ArpOut{Entries: 1}, impl.ArpOut{Released: released(6, 2), Entries: 1}
		if wait >= 60000 {
			passed, sent = impl.ArpOut{}, impl.ArpOut{Sent: asks(near), Entries: 1, Waiting: 1}
		}
		checkSteps(t, append(slices.Clone(made), arpStep{passing(wait), passed}, arpStep{sendTo(near, 2), sent})...)
	}
}

// Hearing again of a known entry, however, puts its end off; sending to it does not.
func TestArpHearingPutsTheEndOff(t *testing.T) {
	for i, op := range []impl.ArpOp{
		replyFrom(near, 6), requestFrom(near, 6, ownAddr), requestFrom(near, 6, near+5),
		hearOf(impl.Arp{Op: impl.ArpReply, SenderMac: 6, Sender: near, Target: near + 5}), sendTo(near, 2),
	} {
		outs := runCache(t, requestFrom(near, 5, ownAddr), passing(40000), op, passing(20000), passing(39999), passing(1))
		left := []int64{outs[3].Entries, outs[4].Entries, outs[5].Entries}
		want := []int64{1, 1, 0}
		if op.Kind == impl.ArpSend {
			want = []int64{0, 0, 0}
		}
		if !slices.Equal(left, want) {
			t.Errorf("operation %d: entries %v, not %v", i, left, want)
		}
	}
}

// Of one time things happen by rising addresses, whatever the order in which the entries were made.
func TestArpDueAtOneTime(t *testing.T) {
	addrs := []int64{0xC0000001, near + 3, 1, near, 0x80000000, near + 256, 0x7EFFFFFF}
	var ops []impl.ArpOp
	var sorted, dropped []int64
	for i, addr := range addrs {
		ops = append(ops, sendTo(addr, int64(i)), sendTo(addr, int64(100+i)))
		sorted = append(sorted, addr)
	}
	slices.Sort(sorted)
	for _, addr := range sorted {
		i := int64(slices.Index(addrs, addr))
		dropped = append(dropped, i, 100+i)
	}
	outs := runCache(t, append(ops, passing(1000), passing(1000), passing(1000))...)
	last := outs[len(outs)-3:]
	asked := impl.ArpOut{Sent: asks(sorted...), Entries: 7, Waiting: 14}
	if !sameArpOuts(last, []impl.ArpOut{asked, asked, {Dropped: dropped}}) {
		t.Errorf("%+v", last)
	}
	outs = runCache(t, append(ops, passing(3000))...)
	all := impl.ArpOut{Sent: append(asks(sorted...), asks(sorted...)...), Dropped: dropped}
	if !sameArpOut(outs[len(outs)-1], all) {
		t.Errorf("%+v, not %+v", outs[len(outs)-1], all)
	}
}

// What falls due again in one wait takes its turn between the others.
func TestArpDueAtSeveralTimes(t *testing.T) {
	a, b, c := int64(near+2), int64(near+1), int64(near)
	made := []impl.ArpOp{sendTo(a, 1), passing(400), sendTo(b, 2), sendTo(b, 3), passing(600), sendTo(c, 4)}
	for wait, want := range map[int64]impl.ArpOut{
		399:  {Entries: 3, Waiting: 4},
		400:  {Sent: asks(b), Entries: 3, Waiting: 4},
		999:  {Sent: asks(b), Entries: 3, Waiting: 4},
		1000: {Sent: asks(b, c, a), Entries: 3, Waiting: 4},
		1400: {Sent: asks(b, c, a, b), Entries: 3, Waiting: 4},
		1999: {Sent: asks(b, c, a, b), Entries: 3, Waiting: 4},
		2000: {Sent: asks(b, c, a, b, c), Dropped: []int64{1}, Entries: 2, Waiting: 3},
		2400: {Sent: asks(b, c, a, b, c), Dropped: []int64{1, 2, 3}, Entries: 1, Waiting: 1},
		2999: {Sent: asks(b, c, a, b, c), Dropped: []int64{1, 2, 3}, Entries: 1, Waiting: 1},
		3000: {Sent: asks(b, c, a, b, c), Dropped: []int64{1, 2, 3, 4}},
	} {
		outs := runCache(t, append(slices.Clone(made), passing(wait))...)
		// At 1000 the first entry has asked again already.
		if !slices.Equal(outs[4].Sent, asks(a)) || !sameArpOut(outs[6], want) {
			t.Errorf("behind %d: %+v, not %+v", wait, outs[6], want)
		}
	}
}

// A wait in pieces does what it does as one.
func TestArpWaitInPieces(t *testing.T) {
	chance := newChance()
	for range 200 {
		var made []impl.ArpOp
		for i := range int64(1 + chance.Intn(10)) {
			made = append(made, sendTo(near+chance.Int63n(20), i), passing(chance.Int63n(400)))
			if chance.Intn(3) == 0 {
				made = append(made, replyFrom(near+chance.Int63n(20), i))
			}
		}
		var pieces []impl.ArpOp
		var sum int64
		for sum < 64000 {
			wait := []int64{0, 1, 499, 500, 999, 1000, 1001, 30000}[chance.Intn(8)]
			pieces = append(pieces, passing(wait))
			sum += wait
		}
		whole := runCache(t, append(slices.Clone(made), passing(sum))...)[len(made)]
		var joined impl.ArpOut
		for _, out := range runCache(t, append(slices.Clone(made), pieces...)...)[len(made):] {
			joined.Sent = append(joined.Sent, out.Sent...)
			joined.Dropped = append(joined.Dropped, out.Dropped...)
			joined.Entries, joined.Waiting = out.Entries, out.Waiting
		}
		if !sameArpOut(whole, joined) {
			t.Fatalf("%+v, in pieces %+v", whole, joined)
		}
	}
}

// All that may be heard: with an asking entry, a known one and none, of the own address and of another, asked and told.
func TestArpHearing(t *testing.T) {
	const mac, other = 66, near + 40
	asking := arpStep{sendTo(near, 1), impl.ArpOut{Sent: asks(near), Entries: 1, Waiting: 1}}
	known := arpStep{requestFrom(near, 55, ownAddr), impl.ArpOut{Sent: tells(near, 55), Entries: 1}}
	none := arpStep{passing(0), impl.ArpOut{}}
	for _, c := range []struct {
		ahead        arpStep
		op, target   int64
		heard, after impl.ArpOut
	}{
		{asking, impl.ArpReply, ownAddr, impl.ArpOut{Released: released(mac, 1), Entries: 1}, impl.ArpOut{Released: released(mac, 2), Entries: 1}},
		{asking, impl.ArpReply, other, impl.ArpOut{Released: released(mac, 1), Entries: 1}, impl.ArpOut{Released: released(mac, 2), Entries: 1}},
		{asking, impl.ArpRequest, other, impl.ArpOut{Released: released(mac, 1), Entries: 1}, impl.ArpOut{Released: released(mac, 2), Entries: 1}},
		{asking, impl.ArpRequest, ownAddr, impl.ArpOut{Sent: tells(near, mac), Released: released(mac, 1), Entries: 1}, impl.ArpOut{Released: released(mac, 2), Entries: 1}},
		{known, impl.ArpReply, ownAddr, impl.ArpOut{Entries: 1}, impl.ArpOut{Released: released(mac, 2), Entries: 1}},
		{known, impl.ArpReply, other, impl.ArpOut{Entries: 1}, impl.ArpOut{Released: released(mac, 2), Entries: 1}},
		{known, impl.ArpRequest, other, impl.ArpOut{Entries: 1}, impl.ArpOut{Released: released(mac, 2), Entries: 1}},
		{known, impl.ArpRequest, ownAddr, impl.ArpOut{Sent: tells(near, mac), Entries: 1}, impl.ArpOut{Released: released(mac, 2), Entries: 1}},
		{none, impl.ArpReply, ownAddr, impl.ArpOut{}, impl.ArpOut{Sent: asks(near), Entries: 1, Waiting: 1}},
		{none, impl.ArpReply, other, impl.ArpOut{}, impl.ArpOut{Sent: asks(near), Entries: 1, Waiting: 1}},
		{none, impl.ArpRequest, other, impl.ArpOut{}, impl.ArpOut{Sent: asks(near), Entries: 1, Waiting: 1}},
		{none, impl.ArpRequest, near, impl.ArpOut{}, impl.ArpOut{Sent: asks(near), Entries: 1, Waiting: 1}},
		{none, impl.ArpRequest, ownAddr, impl.ArpOut{Sent: tells(near, mac), Entries: 1}, impl.ArpOut{Released: released(mac, 2), Entries: 1}},
	} {
		for _, targetMac := range []int64{0, ownMac, lastMac} {
			heard := hearOf(impl.Arp{Op: c.op, SenderMac: mac, Sender: near, TargetMac: targetMac, Target: c.target})
			checkSteps(t, c.ahead, arpStep{heard, c.heard}, arpStep{sendTo(near, 2), c.after})
		}
	}
}

// Nothing comes of an Arp from the own address, or from one that is no host's: not even a reply.
func TestArpHearingOfNoHost(t *testing.T) {
	for _, sender := range []int64{ownAddr, 0, 0x7F000001, 0xE0000001, 0xF0000001, lastAddr} {
		for _, op := range []int64{impl.ArpRequest, impl.ArpReply} {
			for _, target := range []int64{ownAddr, near, 0, sender} {
				checkSteps(t,
					arpStep{sendTo(near, 1), impl.ArpOut{Sent: asks(near), Entries: 1, Waiting: 1}},
					arpStep{hearOf(impl.Arp{Op: op, SenderMac: ownMac, Sender: sender, Target: target}), impl.ArpOut{Entries: 1, Waiting: 1}},
				)
			}
		}
	}
}

// An own address that is no host's is one all the same.
func TestArpOwnAddressOfEachKind(t *testing.T) {
	for _, own := range []int64{0, 1, 0x7F000001, 0xE0000001, 0xF0000001, lastAddr} {
		for _, mac := range []int64{0, 1, lastMac} {
			outs, code := impl.RunArp(impl.ArpConfig{Mac: mac, Addr: own}, []impl.ArpOp{sendTo(near, 1), requestFrom(near, 9, own), requestFrom(own, 9, own), sendTo(own, 2)})
			want := []impl.ArpOut{
				{Sent: []impl.Arp{{Op: impl.ArpRequest, SenderMac: mac, Sender: own, Target: near}}, Entries: 1, Waiting: 1},
				{Sent: []impl.Arp{{Op: impl.ArpReply, SenderMac: mac, Sender: own, TargetMac: 9, Target: near}}, Released: released(9, 1), Entries: 1},
				{Entries: 1}, {Code: impl.ErrForm, Entries: 1},
			}
			if code != impl.OK || !sameArpOuts(outs, want) {
				t.Errorf("own addresses %d, %d: %+v, %d", mac, own, outs, code)
			}
		}
	}
}

// fullCache makes as many entries as there may be, with one packet each that has the number of its place, the
// highest address first.
func fullCache() []impl.ArpOp {
	var ops []impl.ArpOp
	for i := range int64(impl.ArpEntries) {
		ops = append(ops, sendTo(near+100-i, i))
	}
	return ops
}

func TestArpOneEntryBeyond(t *testing.T) {
	const most = impl.ArpEntries
	first, second := int64(near+100), int64(near+99)
	fresh := impl.ArpOut{Sent: asks(near), Dropped: []int64{0}, Entries: most, Waiting: most}
	next := impl.ArpOut{Sent: asks(near), Dropped: []int64{1}, Entries: most, Waiting: most + 1}
	nextKnown := impl.ArpOut{Sent: asks(near), Dropped: []int64{1}, Entries: most, Waiting: most - 1}
	known := impl.ArpOut{Sent: asks(near), Entries: most, Waiting: most}
	full := impl.ArpOut{Entries: most, Waiting: most}
	answered := impl.ArpOut{Released: released(4, 0), Entries: most, Waiting: most - 1}
	told := impl.ArpOut{Sent: tells(near+1, 4), Dropped: []int64{0}, Entries: most, Waiting: most - 1}
	for i, c := range [][]arpStep{
		{{sendTo(near, 50), fresh}},
		// Used again, while it asks and while it is known: the next one is gone.
		{{sendTo(first, 50), impl.ArpOut{Entries: most, Waiting: most + 1}}, {sendTo(near, 51), next}},
		{{replyFrom(first, 4), answered}, {sendTo(first, 50), impl.ArpOut{Released: released(4, 50), Entries: most, Waiting: most - 1}}, {sendTo(near, 51), nextKnown}},
		// Heard of, refused, asked for again in time: not used.
		{{replyFrom(first, 4), answered}, {sendTo(near, 50), known}},
		{{requestFrom(first, 4, near), answered}, {replyFrom(first, 5), impl.ArpOut{Entries: most, Waiting: most - 1}}, {sendTo(near, 50), known}},
		{{passing(1000), impl.ArpOut{Sent: asks(downFrom(first, most)...), Entries: most, Waiting: most}}, {sendTo(near, 50), fresh}},
		{{impl.ArpOp{Kind: 4, Addr: first}, impl.ArpOut{Code: impl.ErrForm, Entries: most, Waiting: most}}, {sendTo(near, 50), fresh}},
		// An entry by hearing pushes out too, and is the one that was used last.
		{{requestFrom(near+1, 4, ownAddr), told}, {sendTo(near, 50), impl.ArpOut{Sent: asks(near), Dropped: []int64{1}, Entries: most, Waiting: most - 1}}},
		// Nothing new, nothing gone.
		{{replyFrom(near, 4), full}, {requestFrom(near, 4, near+1), full}, {requestFrom(ownAddr, 4, ownAddr), full}, {requestFrom(0, 4, ownAddr), full}, {sendTo(ownAddr, 4), impl.ArpOut{Code: impl.ErrForm, Entries: most, Waiting: most}}},
		// One that is gone is made anew, and pushes out the next.
		{{sendTo(near, 50), fresh}, {replyFrom(first, 4), full}, {sendTo(first, 51), impl.ArpOut{Sent: asks(first), Dropped: []int64{1}, Entries: most, Waiting: most}}, {sendTo(second, 52), impl.ArpOut{Sent: asks(second), Dropped: []int64{2}, Entries: most, Waiting: most}}},
	} {
		ops := fullCache()
		for _, step := range c {
			ops = append(ops, step.op)
		}
		outs := runCache(t, ops...)
		for j, step := range c {
			if out := outs[most+j]; !sameArpOut(out, step.want) {
				t.Errorf("case %d, operation %d: %+v, not %+v", i, j, out, step.want)
			}
		}
	}
}

// downFrom are the addresses of a full cache, rising.
func downFrom(first, n int64) []int64 {
	var list []int64
	for i := range n {
		list = append(list, first-n+1+i)
	}
	return list
}

// All packets that wait for the entry that is pushed out are dropped, in order.
func TestArpPushedOutWithAllThatWaits(t *testing.T) {
	ops := []impl.ArpOp{sendTo(near+200, 91), sendTo(near+200, 92), sendTo(near+200, 93), sendTo(near+200, 94), sendTo(near+200, 95)}
	outs := runCache(t, append(append(ops, fullCache()...), sendTo(near+200, 96))...)
	beyond, again := outs[len(outs)-2], outs[len(outs)-1]
	if !sameArpOut(beyond, impl.ArpOut{Sent: asks(near + 69), Dropped: []int64{92, 93, 94, 95}, Entries: 32, Waiting: 32}) {
		t.Errorf("%+v", beyond)
	}
	if !sameArpOut(again, impl.ArpOut{Sent: asks(near + 200), Dropped: []int64{0}, Entries: 32, Waiting: 32}) {
		t.Errorf("%+v", again)
	}
}

// The place is what counts, not the time: an entry that was used earlier is gone though it would end later.
func TestArpPushedOutByPlace(t *testing.T) {
	ops := []impl.ArpOp{requestFrom(near+300, 7, ownAddr), passing(2500)}
	ops = append(ops, fullCache()[:impl.ArpEntries-1]...)
	ops = append(ops, replyFrom(near+300, 8), sendTo(near, 50), sendTo(near+300, 51))
	outs := runCache(t, ops...)
	if last := outs[len(outs)-2]; !sameArpOut(last, impl.ArpOut{Sent: asks(near), Entries: 32, Waiting: 32}) {
		t.Errorf("%+v", last)
	}
	if last := outs[len(outs)-1]; !sameArpOut(last, impl.ArpOut{Sent: asks(near + 300), Dropped: []int64{0}, Entries: 32, Waiting: 32}) {
		t.Errorf("%+v", last)
	}
}

func TestArpTimeIsBounded(t *testing.T) {
	ill := impl.ArpOut{Code: impl.ErrForm}
	for _, wait := range []int64{-1, -1000, math.MinInt64, impl.MaxTime + 1, math.MaxInt64 - 1, math.MaxInt64} {
		checkSteps(t, arpStep{passing(wait), ill}, arpStep{passing(impl.MaxTime), impl.ArpOut{}}, arpStep{passing(wait), ill})
		held := impl.ArpOut{Entries: 1, Waiting: 1}
		checkSteps(t,
			arpStep{passing(7), impl.ArpOut{}},
			arpStep{sendTo(near, 1), impl.ArpOut{Sent: asks(near), Entries: 1, Waiting: 1}},
			arpStep{passing(wait), impl.ArpOut{Code: impl.ErrForm, Entries: 1, Waiting: 1}},
			arpStep{passing(999), held},
		)
	}
	checkSteps(t,
		arpStep{passing(impl.MaxTime - 1000), impl.ArpOut{}},
		arpStep{sendTo(near, 1), impl.ArpOut{Sent: asks(near), Entries: 1, Waiting: 1}},
		arpStep{passing(1001), impl.ArpOut{Code: impl.ErrForm, Entries: 1, Waiting: 1}},
		arpStep{passing(1000), impl.ArpOut{Sent: asks(near), Entries: 1, Waiting: 1}},
		arpStep{passing(1), impl.ArpOut{Code: impl.ErrForm, Entries: 1, Waiting: 1}},
		arpStep{passing(0), impl.ArpOut{Entries: 1, Waiting: 1}},
		arpStep{sendTo(near+1, 2), impl.ArpOut{Sent: asks(near + 1), Entries: 2, Waiting: 2}},
		arpStep{replyFrom(near, 3), impl.ArpOut{Released: released(3, 1), Entries: 2, Waiting: 1}},
	)
}

// An operation's kind is one of three; what is not of its kind does not count.
func TestArpKindsOfOperations(t *testing.T) {
	illArp := impl.Arp{Op: 9, SenderMac: -1, Sender: -1, TargetMac: -1, Target: -1}
	for _, kind := range append(edgeNumbers(), 1, 2, 3, 4, 5) {
		op := impl.ArpOp{Kind: kind, Addr: near, Packet: 5, Wait: 3, Arp: impl.Arp{Op: impl.ArpRequest, SenderMac: 6, Sender: near + 1, Target: ownAddr}}
		want := impl.ArpOut{Code: impl.ErrForm}
		switch kind {
		case impl.ArpSend:
			op.Wait, op.Arp = -1, illArp
			want = impl.ArpOut{Sent: asks(near), Entries: 1, Waiting: 1}
		case impl.ArpHear:
			op.Addr, op.Wait = -1, -1
			want = impl.ArpOut{Sent: tells(near+1, 6), Entries: 1}
		case impl.ArpPass:
			op.Addr, op.Arp = -1, illArp
			want = impl.ArpOut{}
		}
		checkSteps(t, arpStep{op, want})
	}
}

func TestRunArpAsksItsConfiguration(t *testing.T) {
	for _, n := range edgeNumbers() {
		for c, valid := range map[impl.ArpConfig]bool{
			{Mac: n, Addr: ownAddr}: n >= 0 && n <= lastMac,
			{Mac: ownMac, Addr: n}:  n >= 0 && n <= lastAddr,
			{Mac: -1, Addr: n}:      false,
		} {
			outs, code := impl.RunArp(c, []impl.ArpOp{passing(1)})
			if valid && (code != impl.OK || !sameArpOuts(outs, []impl.ArpOut{{}})) || !valid && (code != impl.ErrForm || len(outs) != 0) {
				t.Errorf("RunArp(%v): %v, %d", c, outs, code)
			}
		}
	}
}

// An ill configuration is told ahead of too many operations.
func TestRunArpBoundsItsOperations(t *testing.T) {
	for n, want := range map[int]int64{0: impl.OK, 1: impl.OK, impl.MaxOps - 1: impl.OK, impl.MaxOps: impl.OK, impl.MaxOps + 1: impl.ErrCount, 1 << 16: impl.ErrCount} {
		ops := slices.Repeat([]impl.ArpOp{passing(5)}, n)
		outs, code := impl.RunArp(ownCache(), ops)
		if code != want || want == impl.OK && len(outs) != n || want != impl.OK && len(outs) != 0 {
			t.Errorf("%d operations: %d answers, %d", n, len(outs), code)
		}
		for _, c := range []impl.ArpConfig{{Mac: -1}, {Mac: lastMac + 1}, {Addr: -1}, {Addr: lastAddr + 1}} {
			if outs, code := impl.RunArp(c, ops); code != impl.ErrForm || len(outs) != 0 {
				t.Errorf("%d operations of %v: %d answers, %d", n, c, len(outs), code)
			}
		}
	}
	if outs, code := impl.RunArp(ownCache(), nil); code != impl.OK || len(outs) != 0 {
		t.Errorf("no operations: %v, %d", outs, code)
	}
}

// arpScript is a random one: few addresses or more than there may be entries, times at which things fall due and
// those beside them, now and then an operation that is not valid. Each packet has its own number.
func arpScript(chance *rand.Rand) []impl.ArpOp {
	addrs, n := 1+chance.Int63n(45), 1+chance.Intn(300)
	hears, passes := 1+chance.Intn(40), 1+chance.Intn(20)
	waits := []int64{0, 1, 2, 400, 500, 998, 999, 1000, 1001, 1600, 2000, 2999, 3000, 3001, 59000, 59999, 60000, 60001}
	anyAddr := func() int64 {
		if chance.Intn(12) == 0 {
			return []int64{0, ownAddr, 0x7F000001, 0xE0000001, lastAddr}[chance.Intn(5)]
		}
		n := chance.Int63n(addrs)
		return near + n<<(n%3*8)
	}
	var ops []impl.ArpOp
	for i := range n {
		switch roll := chance.Intn(100); {
		case roll < hears:
			a := impl.Arp{Op: 1 + chance.Int63n(2), SenderMac: chance.Int63n(1000), Sender: anyAddr(), Target: ownAddr}
			if chance.Intn(3) == 0 {
				a.Target = anyAddr()
			}
			ops = append(ops, hearOf(a))
		case roll < hears+passes:
			ops = append(ops, passing(waits[chance.Intn(len(waits))]))
		case roll == 99:
			ops = append(ops, illArpOps()[chance.Intn(len(illArpOps()))])
		default:
			ops = append(ops, sendTo(anyAddr(), int64(i)))
		}
	}
	return ops
}

// illArpOps are not valid, whatever has been ahead of them.
func illArpOps() []impl.ArpOp {
	return []impl.ArpOp{
		{}, {Kind: 4, Addr: near, Packet: 1000000}, {Kind: -1, Wait: 5000}, sendTo(ownAddr, 1000001), sendTo(-1, 1000002),
		sendTo(0, 1000003), sendTo(lastAddr+1, 1000004), passing(-1), passing(impl.MaxTime + 1), passing(math.MaxInt64),
		hearOf(impl.Arp{}), hearOf(impl.Arp{Op: 3, Sender: near, Target: ownAddr}),
		hearOf(impl.Arp{Op: 1, SenderMac: -1, Sender: near, Target: ownAddr}),
		hearOf(impl.Arp{Op: 1, SenderMac: lastMac + 1, Sender: near, Target: ownAddr}),
		hearOf(impl.Arp{Op: 2, Sender: near, TargetMac: lastMac + 1, Target: ownAddr}),
		hearOf(impl.Arp{Op: 2, Sender: near + lastAddr + 1, Target: ownAddr}),
		hearOf(impl.Arp{Op: 2, Sender: near, Target: ownAddr + lastAddr + 1}),
	}
}

// P9: every packet that is taken is released once, dropped once, or still waits, and goes to the hardware address
// that its own address told last.
func TestArpPacketsAreNeitherLostNorDoubled(t *testing.T) {
	chance := newChance()
	for range 400 {
		ops := arpScript(chance)
		waiting, gone, told := map[int64]int64{}, map[int64]bool{}, map[int64]int64{}
		for i, out := range runCache(t, ops...) {
			if op := ops[i]; out.Code == impl.OK && op.Kind == impl.ArpSend {
				waiting[op.Packet] = op.Addr
			} else if out.Code == impl.OK && op.Kind == impl.ArpHear {
				told[op.Arp.Sender] = op.Arp.SenderMac
			}
			for _, r := range out.Released {
				addr, waits := waiting[r.Packet]
				mac, known := told[addr]
				if !waits || gone[r.Packet] || !known || mac != r.Mac {
					t.Fatalf("operation %d releases %+v for %d, whose hardware address is %d", i, r, addr, mac)
				}
				delete(waiting, r.Packet)
				gone[r.Packet] = true
			}
			for _, packet := range out.Dropped {
				if _, waits := waiting[packet]; !waits || gone[packet] {
					t.Fatalf("operation %d drops %d, which does not wait", i, packet)
				}
				delete(waiting, packet)
				gone[packet] = true
			}
			if out.Waiting != int64(len(waiting)) || out.Entries > impl.ArpEntries || out.Waiting > out.Entries*impl.ArpWaiting {
				t.Fatalf("operation %d: %d packets wait, not %d; %d entries", i, out.Waiting, len(waiting), out.Entries)
			}
		}
	}
}

// P9: what waits is decided in the end, when enough time has passed.
func TestArpNothingWaitsForEver(t *testing.T) {
	chance := newChance()
	for range 200 {
		outs := runCache(t, append(arpScript(chance), passing(2999), passing(1), passing(57000))...)
		asked, last := outs[len(outs)-2], outs[len(outs)-1]
		if asked.Waiting != 0 || last.Entries != 0 {
			t.Fatalf("%+v, %+v", asked, last)
		}
	}
}

// An operation that is not valid does nothing, and tells what there is.
func TestArpIllOperationsDoNothing(t *testing.T) {
	chance := newChance()
	for range 200 {
		ops := arpScript(chance)
		var mixed []impl.ArpOp
		var put []int
		for _, op := range ops {
			for chance.Intn(3) == 0 {
				put = append(put, len(mixed))
				mixed = append(mixed, illArpOps()[chance.Intn(len(illArpOps()))])
			}
			mixed = append(mixed, op)
		}
		outs := runCache(t, mixed...)
		for _, place := range slices.Backward(put) {
			want := impl.ArpOut{Code: impl.ErrForm}
			if place > 0 {
				want.Entries, want.Waiting = outs[place-1].Entries, outs[place-1].Waiting
			}
			if !sameArpOut(outs[place], want) {
				t.Fatalf("%+v: %+v, not %+v", mixed[place], outs[place], want)
			}
			outs = slices.Delete(outs, place, place+1)
		}
		if !sameArpOuts(outs, runCache(t, ops...)) {
			t.Fatal("other answers with ill operations between")
		}
	}
}

// modelEntry and modelCache are the cache once more, built otherwise: a list, with every entry's coming events
// worked out at once.
type modelEntry struct {
	addr, mac, begun int64
	known            bool
	waiting          []int64
}

// modelCache does what falls due in passing alone; up to then it has been done.
type modelCache struct {
	own       impl.ArpConfig
	now, done int64
	list      []modelEntry
}

func (m *modelCache) request(addr int64) impl.Arp {
	return impl.Arp{Op: impl.ArpRequest, SenderMac: m.own.Mac, Sender: m.own.Addr, Target: addr}
}

func (m *modelCache) find(addr int64) int {
	return slices.IndexFunc(m.list, func(e modelEntry) bool { return e.addr == addr })
}

// add keeps the list in the order of use.
func (m *modelCache) add(e modelEntry, out *impl.ArpOut) {
	if len(m.list) == impl.ArpEntries {
		out.Dropped = append(out.Dropped, m.list[0].waiting...)
		m.list = m.list[1:]
	}
	m.list = append(m.list, e)
}

func (m *modelCache) send(addr, packet int64, out *impl.ArpOut) {
	at := m.find(addr)
	if at < 0 {
		m.add(modelEntry{addr: addr, begun: m.now, waiting: []int64{packet}}, out)
		out.Sent = []impl.Arp{m.request(addr)}
		return
	}
	e := m.list[at]
	m.list = append(slices.Delete(m.list, at, at+1), e)
	last := &m.list[len(m.list)-1]
	if e.known {
		out.Released = released(e.mac, packet)
		return
	}
	last.waiting = append(slices.Clone(e.waiting), packet)
	if over := len(last.waiting) - impl.ArpWaiting; over > 0 {
		out.Dropped = last.waiting[:over]
		last.waiting = last.waiting[over:]
	}
}

func (m *modelCache) hear(a impl.Arp, out *impl.ArpOut) {
	if a.Sender == m.own.Addr || impl.AddrKind(a.Sender) != impl.AddrHost {
		return
	}
	asked := a.Target == m.own.Addr && a.Op == impl.ArpRequest
	if at := m.find(a.Sender); at >= 0 {
		e := &m.list[at]
		out.Released = released(a.SenderMac, e.waiting...)
		e.known, e.mac, e.begun, e.waiting = true, a.SenderMac, m.now, nil
	} else if asked {
		m.add(modelEntry{addr: a.Sender, mac: a.SenderMac, known: true, begun: m.now}, out)
	}
	if asked {
		out.Sent = []impl.Arp{{
			Op: impl.ArpReply, SenderMac: m.own.Mac, Sender: m.own.Addr, TargetMac: a.SenderMac, Target: a.Sender,
		}}
	}
}

type modelEvent struct {
	time, addr int64
	ends       bool
	waiting    []int64
}

func (e modelEntry) events() []modelEvent {
	if e.known {
		return []modelEvent{{time: e.begun + 60000, addr: e.addr, ends: true}}
	}
	return []modelEvent{
		{time: e.begun + 1000, addr: e.addr}, {time: e.begun + 2000, addr: e.addr},
		{time: e.begun + 3000, addr: e.addr, ends: true, waiting: e.waiting},
	}
}

func (m *modelCache) pass(wait int64, out *impl.ArpOut) {
	var events []modelEvent
	for _, e := range m.list {
		for _, event := range e.events() {
			if event.time > m.done && event.time <= m.now+wait {
				events = append(events, event)
			}
		}
	}
	slices.SortFunc(events, func(a, b modelEvent) int {
		return cmp.Or(cmp.Compare(a.time, b.time), cmp.Compare(a.addr, b.addr))
	})
	for _, event := range events {
		if event.ends {
			at := m.find(event.addr)
			m.list = slices.Delete(m.list, at, at+1)
			out.Dropped = append(out.Dropped, event.waiting...)
		} else {
			out.Sent = append(out.Sent, m.request(event.addr))
		}
	}
	m.now += wait
	m.done = m.now
}

// do does an operation; what is not valid is known by the program's own bytes and kinds, which other tests ask for.
func (m *modelCache) do(op impl.ArpOp) impl.ArpOut {
	var out impl.ArpOut
	_, arpCode := impl.EncodeArp(op.Arp)
	switch {
	case op.Kind == impl.ArpSend && impl.AddrKind(op.Addr) == impl.AddrHost && op.Addr != m.own.Addr:
		m.send(op.Addr, op.Packet, &out)
	case op.Kind == impl.ArpHear && arpCode == impl.OK:
		m.hear(op.Arp, &out)
	case op.Kind == impl.ArpPass && op.Wait >= 0 && op.Wait <= impl.MaxTime && m.now+op.Wait <= impl.MaxTime:
		m.pass(op.Wait, &out)
	default:
		out.Code = impl.ErrForm
	}
	out.Entries = int64(len(m.list))
	for _, e := range m.list {
		out.Waiting += int64(len(e.waiting))
	}
	return out
}

func TestArpAnswersAsTheModel(t *testing.T) {
	chance := newChance()
	for range 1500 {
		ops := arpScript(chance)
		m := modelCache{own: ownCache()}
		for i, out := range runCache(t, ops...) {
			if want := m.do(ops[i]); !sameArpOut(out, want) {
				t.Fatalf("operation %d of %d, %+v: %+v, not %+v", i, len(ops), ops[i], out, want)
			}
		}
	}
}

// P51: as many operations as there may be end, those that push out and those that let all fall due among them.
func TestArpLongRuns(t *testing.T) {
	var pushing, falling []impl.ArpOp
	for i := range int64(impl.MaxOps) {
		pushing = append(pushing, sendTo(near+i, i))
		falling = append(falling, sendTo(near+i%31, i))
		if i%32 == 31 {
			falling[i] = passing(3000)
		}
	}
	for _, ops := range [][]impl.ArpOp{pushing, falling} {
		m := modelCache{own: ownCache()}
		for i, out := range runCache(t, ops...) {
			if want := m.do(ops[i]); !sameArpOut(out, want) {
				t.Fatalf("operation %d, %+v: %+v, not %+v", i, ops[i], out, want)
			}
		}
	}
}

func cloneArpOuts(outs []impl.ArpOut) []impl.ArpOut {
	list := slices.Clone(outs)
	for i := range list {
		list[i].Sent = slices.Clone(outs[i].Sent)
		list[i].Released = slices.Clone(outs[i].Released)
		list[i].Dropped = slices.Clone(outs[i].Dropped)
	}
	return list
}

// spoil writes over all of a list, its spare room too.
func spoil[T any](list []T, with T) {
	for i := range list[:cap(list)] {
		list[:cap(list)][i] = with
	}
}

// P51: a run answers the same again, changes none of its operations, and no two of its lists share memory.
func TestRunArpSharesNothing(t *testing.T) {
	chance := newChance()
	for range 100 {
		room := append(arpScript(chance), passing(77), sendTo(near, 78))
		ops := room[:len(room)-2]
		kept := slices.Clone(room)
		outs := runCache(t, ops...)
		told := cloneArpOuts(outs)
		if !sameArpOuts(runCache(t, ops...), told) {
			t.Fatal("another answer the second time")
		}
		for i := range outs {
			spoil(outs[i].Sent, impl.Arp{Op: -1})
			spoil(outs[i].Released, impl.ArpRelease{Packet: -1, Mac: -1})
			spoil(outs[i].Dropped, -1)
			// Spoilt lists are taken out of the comparison: all the others must be as they were.
			outs[i].Sent, outs[i].Released, outs[i].Dropped = told[i].Sent, told[i].Released, told[i].Dropped
			if !sameArpOuts(outs, told) {
				t.Fatalf("a list of answer %d shares memory with another one", i)
			}
		}
		if !slices.Equal(room, kept) {
			t.Fatal("the operations have been changed")
		}
	}
}
