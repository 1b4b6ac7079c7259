package tests

import (
	"encoding/binary"
	"fmt"
	"math"
	"math/rand"
	"regexp"
	"slices"
	"strconv"
	"strings"
	"testing"

	"loop.example/g00003/impl"
)

const (
	lastPort = 65535
	// How long flows are followed behind their latest use.
	echoStays  = 10000
	udpStays   = 30000
	tcpStays   = 300000
	endedStays = 10000
)

// Flags of segments, as they stand in a byte.
const (
	fin = 1
	syn = 2
	rst = 4
	ack = 16
)

// modelWords are the words for numbers of a rule, by number.
var modelWords = struct{ action, dir, proto, state map[int64]string }{
	map[int64]string{1: "pass", 2: "drop", 3: "reject"}, map[int64]string{1: "in", 2: "out", 3: "both"},
	map[int64]string{0: "any", 1: "icmp", 6: "tcp", 17: "udp"}, map[int64]string{0: "", 1: "new", 2: "known", 3: "related", 4: "stray"},
}

// numberFor must have a word of the list.
func numberFor(words map[int64]string, word string) int64 {
	for number, w := range words {
		if w == word {
			return number
		}
	}
	return -1
}

func modelValidRule(r impl.Rule) bool {
	_, _, src := validInterval(r.Src)
	_, _, dst := validInterval(r.Dst)
	isPort := func(n int64) bool { return n >= 0 && n <= 65535 }
	ports := isPort(r.SrcLow) && isPort(r.SrcHigh) && r.SrcLow <= r.SrcHigh && isPort(r.DstLow) && isPort(r.DstHigh) && r.DstLow <= r.DstHigh
	all := [4]int64{r.SrcLow, r.SrcHigh, r.DstLow, r.DstHigh} == [4]int64{0, 65535, 0, 65535}
	_, action := modelWords.action[r.Action]
	_, dir := modelWords.dir[r.Dir]
	_, proto := modelWords.proto[r.Proto]
	_, state := modelWords.state[r.State]
	return action && dir && proto && state && src && dst && ports && (all || r.Proto == 6 || r.Proto == 17)
}

// ruleLine is a line of a text of rules, without what stands behind a #.
var ruleLine = regexp.MustCompile(`\A[ \t]*(pass|drop|reject)[ \t]+(in|out|both)[ \t]+(any|icmp|tcp|udp)` +
	`[ \t]+from[ \t]+(any|[0-9.]+/[0-9]+)(?:[ \t]+port[ \t]+(0|[1-9][0-9]{0,9})(-(?:0|[1-9][0-9]{0,9}))?)?` +
	`[ \t]+to[ \t]+(any|[0-9.]+/[0-9]+)(?:[ \t]+port[ \t]+(0|[1-9][0-9]{0,9})(-(?:0|[1-9][0-9]{0,9}))?)?(?:[ \t]+(new|known|related|stray))?[ \t]*\z`)

// modelSide reads a prefix, a first port if there is one, and a last one with its sign if there is one.
func modelSide(prefix, first, last string) (impl.Prefix, int64, int64, bool) {
	p, code := impl.Prefix{}, int64(impl.OK)
	if prefix != "any" {
		p, code = impl.ReadPrefix(prefix)
	}
	if first == "" {
		return p, 0, 65535, code == impl.OK
	}
	low, _ := strconv.ParseInt(first, 10, 64)
	high := low
	if last != "" {
		high, _ = strconv.ParseInt(last[1:], 10, 64)
	}
	return p, low, high, code == impl.OK
}

// modelRule reads a line by its form as a whole.
func modelRule(line string) (impl.Rule, bool) {
	parts := ruleLine.FindStringSubmatch(line)
	if parts == nil {
		return impl.Rule{}, false
	}
	r := impl.Rule{
		Action: numberFor(modelWords.action, parts[1]), Dir: numberFor(modelWords.dir, parts[2]),
		Proto: numberFor(modelWords.proto, parts[3]), State: numberFor(modelWords.state, parts[10]),
	}
	var src, dst bool
	r.Src, r.SrcLow, r.SrcHigh, src = modelSide(parts[4], parts[5], parts[6])
	r.Dst, r.DstLow, r.DstHigh, dst = modelSide(parts[7], parts[8], parts[9])
	if !src || !dst || !modelValidRule(r) {
		return impl.Rule{}, false
	}
	return r, true
}

func plainSide(p impl.Prefix, low, high int64) string {
	line := "any"
	if p.Bits > 0 {
		line = fmt.Sprintf("%s/%d", plainAddr(p.Addr), p.Bits)
	}
	switch {
	case low == 0 && high == 65535:
		return line
	case low == high:
		return fmt.Sprintf("%s port %d", line, low)
	}
	return fmt.Sprintf("%s port %d-%d", line, low, high)
}

// plainRule is a valid rule's line, written apart from the program.
func plainRule(r impl.Rule) string {
	line := fmt.Sprintf("%s %s %s from %s to %s %s", modelWords.action[r.Action], modelWords.dir[r.Dir], modelWords.proto[r.Proto],
		plainSide(r.Src, r.SrcLow, r.SrcHigh), plainSide(r.Dst, r.DstLow, r.DstHigh), modelWords.state[r.State])
	return strings.TrimSuffix(line, " ")
}

// ruleOf is for any addresses, ports and states.
func ruleOf(action, dir, proto int64) impl.Rule {
	return impl.Rule{Action: action, Dir: dir, Proto: proto, SrcHigh: lastPort, DstHigh: lastPort}
}

// withPorts is like r but for its ports.
func withPorts(r impl.Rule, srcLow, srcHigh, dstLow, dstHigh int64) impl.Rule {
	r.SrcLow, r.SrcHigh, r.DstLow, r.DstHigh = srcLow, srcHigh, dstLow, dstHigh
	return r
}

// portRanges are valid.
func portRanges() [][2]int64 {
	return [][2]int64{{0, 65535}, {0, 0}, {65535, 65535}, {0, 65534}, {1, 65535}, {1, 1}, {80, 80}, {80, 81}, {9, 10}, {99, 1000}, {65534, 65535}, {10000, 60000}}
}

// edgeRules are valid, with each of their numbers at both ends of its range; the first is the one that fits all packets.
func edgeRules() []impl.Rule {
	list := []impl.Rule{ruleOf(1, 3, 0)}
	for action := int64(1); action <= 3; action++ {
		for dir := int64(1); dir <= 3; dir++ {
			for _, proto := range []int64{0, 1, 6, 17} {
				for state := range int64(5) {
					r := ruleOf(action, dir, proto)
					r.State = state
					list = append(list, r)
				}
			}
		}
	}
	for _, p := range somePrefixes() {
		src, dst, both := ruleOf(2, 1, 6), ruleOf(1, 2, 0), ruleOf(3, 3, 17)
		src.Src, dst.Dst, both.Src, both.Dst = p, p, p, p
		both.State = impl.StateStray
		list = append(list, src, dst, both)
	}
	for _, a := range portRanges() {
		for _, b := range portRanges() {
			for _, proto := range []int64{impl.ProtoTcp, impl.ProtoUdp} {
				r := withPorts(ruleOf(1, 1, proto), a[0], a[1], b[0], b[1])
				list = append(list, r)
				r.Src, r.State = impl.Prefix{Addr: 10 << 24, Bits: 8}, impl.StateNew
				list = append(list, r)
			}
		}
	}
	return list
}

// illRules are not valid, each for one reason.
func illRules() []impl.Rule {
	var list []impl.Rule
	for _, n := range append(edgeNumbers(), 3, 4, 5, 6, 7, 16, 17, 18) {
		for _, set := range []func(*impl.Rule){
			func(r *impl.Rule) { r.Action = n }, func(r *impl.Rule) { r.Dir = n }, func(r *impl.Rule) { r.Proto = n }, func(r *impl.Rule) { r.State = n },
			func(r *impl.Rule) { r.SrcLow = n }, func(r *impl.Rule) { r.SrcHigh = n }, func(r *impl.Rule) { r.DstLow = n }, func(r *impl.Rule) { r.DstHigh = n },
		} {
			for _, r := range []impl.Rule{ruleOf(1, 1, 6), ruleOf(2, 3, 1), ruleOf(3, 2, 0), ruleOf(1, 3, 17)} {
				if set(&r); !modelValidRule(r) {
					list = append(list, r)
				}
			}
		}
	}
	for _, p := range illPrefixes() {
		src, dst := ruleOf(1, 3, 0), ruleOf(2, 1, 6)
		src.Src, dst.Dst = p, p
		list = append(list, src, dst)
	}
	for _, ports := range [][2]int64{{1, 0}, {65535, 0}, {65535, 65534}, {81, 80}, {-1, 65535}, {0, 65536}, {-1, -1}, {65536, 65536}, {-1, 65536}, {math.MinInt64, math.MaxInt64}} {
		for _, proto := range []int64{0, 1, 6, 17} {
			list = append(list, withPorts(ruleOf(1, 1, proto), ports[0], ports[1], 0, 65535), withPorts(ruleOf(1, 1, proto), 0, 65535, ports[0], ports[1]))
		}
	}
	for _, ports := range portRanges()[1:] {
		for _, proto := range []int64{0, 1} {
			list = append(list, withPorts(ruleOf(1, 1, proto), ports[0], ports[1], 0, 65535), withPorts(ruleOf(1, 1, proto), 0, 65535, ports[0], ports[1]))
		}
	}
	return append(list, impl.Rule{})
}

// randomRule is valid; few addresses and ports are in it, so that packets meet it.
func randomRule(chance *rand.Rand) impl.Rule {
	r := ruleOf(1+chance.Int63n(3), 1+chance.Int63n(3), []int64{0, 0, 1, 6, 17}[chance.Intn(5)])
	r.State = []int64{0, 0, 1, 2, 3, 4}[chance.Intn(6)]
	prefixes := []impl.Prefix{{}, {}, {Addr: 10 << 24, Bits: 8}, {Addr: ownAddr, Bits: 32}, {Addr: near, Bits: 32}, {Addr: near, Bits: 31}, {Addr: 128 << 24, Bits: 1}}
	r.Src, r.Dst = prefixes[chance.Intn(len(prefixes))], prefixes[chance.Intn(len(prefixes))]
	if r.Proto == impl.ProtoTcp || r.Proto == impl.ProtoUdp {
		ranges := append(portRanges(), [2]int64{0, 65535}, [2]int64{0, 65535}, [2]int64{1000, 1003}, [2]int64{1001, 1001})
		src, dst := ranges[chance.Intn(len(ranges))], ranges[chance.Intn(len(ranges))]
		r = withPorts(r, src[0], src[1], dst[0], dst[1])
	}
	return r
}

func randomRules(chance *rand.Rand, n int) []impl.Rule {
	var list []impl.Rule
	for range n {
		list = append(list, randomRule(chance))
	}
	return list
}

// illRuleLines are each not a rule, for one reason at least; none of them is of no words.
func illRuleLines() []string {
	list := []string{
		"block in any from any to any", "allow in any from any to any", "Pass in any from any to any", "PASS in any from any to any", "passes in any from any to any", "pas in any from any to any", "1 in any from any to any",
		"pass on any from any to any", "pass IN any from any to any", "pass inout any from any to any", "pass any any from any to any", "pass 1 any from any to any",
		"pass in all from any to any", "pass in TCP from any to any", "pass in Any from any to any", "pass in ip from any to any", "pass in 6 from any to any", "pass in 0 from any to any", "pass in tcp,udp from any to any",
		"pass in any From any to any", "pass in any from Any to any", "pass in any from ANY to any", "pass in any from any To any", "pass in any from any to Any", "pass in tcp from any Port 1 to any", "pass in tcp from any to any PORT 1",
		"pass in any from any to any New", "pass in any from any to any KNOWN", "pass in any from any to any any", "pass in any from any to any odd", "pass in any from any to any 1", "pass in any from any to any established",
		// Too few words.
		"pass", "in", "any", "from", "to", "port", "new", "pass in", "pass in any", "pass in any from", "pass in any from any", "pass in any from any to", "pass in any to any", "pass in any from to any", "pass in any from any any",
		"in any from any to any", "pass any from any to any", "pass in from any to any", "pass in any any to any", "pass in any any any", "pass in any from any to new", "pass in any from any new",
		"pass in tcp from any port to any", "pass in tcp from any to any port", "pass in tcp from any 80 to any", "pass in tcp from any to any 80", "pass in tcp from port 80 to any", "pass in tcp from any to port 80", "pass in tcp from any to any port new",
		// Too many, twice, or in another order.
		"pass pass in any from any to any", "pass in in any from any to any", "pass in any any from any to any", "pass in any from from any to any", "pass in any from any any to any", "pass in any from any to to any",
		"pass in any from any to any to any", "pass in any from any from any to any", "pass in any from any to any any any", "pass in any from any to any new new", "pass in any from any to any new known", "pass in any from any to any new x", "pass in any from any to any x",
		"pass in tcp from any port 1 port 1 to any", "pass in tcp from any port port 1 to any", "pass in tcp from any to any port 1 port 1", "pass in tcp from any port 1 2 to any", "pass in tcp from any to any port 1 2",
		"in pass any from any to any", "pass any in from any to any", "any pass in from any to any", "pass in any to any from any", "pass in from any any to any", "pass in any new from any to any", "new pass in any from any to any", "pass new in any from any to any",
		"pass in tcp port 1 from any to any", "pass in tcp from port 1 any to any", "pass in tcp from any to any new port 1", "pass in tcp from any to port 1 any", "pass in tcp from any new to any", "from any to any pass in any",
		// Prefixes that are none.
		"pass in any from 10.0.0.0 to any", "pass in any from 10.0.0.1/8 to any", "pass in any from 10.0.0.0/33 to any", "pass in any from 10.0.0.0/08 to any", "pass in any from any to 256.0.0.0/8", "pass in any from any to 10.0.0.0/", "pass in any from any to /8",
		"pass in any from any/0 to any", "pass in any from 0/0 to any", "pass in any from * to any", "pass in any from any to 0.0.0.0/-1", "pass in any from any to 128.0.0.0/0", "pass in any from any to 010.0.0.0/8", "pass in any from 10.0.0.0 /8 to any",
		// Ports with a protocol that has none.
		"pass in any from any port 80 to any", "pass in any from any to any port 80", "pass in icmp from any port 1 to any", "pass in icmp from any to any port 0", "pass in any from any port 0-65534 to any", "pass in icmp from any to any port 1-65535 new",
		// No blanks may stand about the sign between two ports.
		"pass in tcp from any to any port 1 - 2", "pass in tcp from any to any port 1- 2", "pass in tcp from any to any port 1 -2", "pass in tcp from any port 1 - 2 to any", "pass in tcp from any port 1- 2 to any", "pass in tcp from any port 1 -2 to any",
		"; pass in any from any to any", "// pass in any from any to any", "pass in any from any to any;", "pass, in any from any to any", "\"pass\" in any from any to any", "\x00", "\xff\xfe", "10.0.0.0/8 link 1",
	}
	ports := append(illDecimals(),
		"65536", "65537", "99999", "100000", "0-65536", "65536-65536", "2-1", "1-0", "65535-0", "65535-65534", "81-80", "1-2-3", "1--2", "-", "--", "1-", "-1", "0-", "-0", "-1-2", "1-2-", "01-2", "1-02", "00-1", "0-00", "1-x", "x-1",
		"1:2", "1..2", "1,2", "1–2", "1-2,3", "1/2", ">1", "<1", "!1", "http", "any", "*", "0x50", "+1-2", "1-+2", "1-18446744073709551617", "18446744073709551617-18446744073709551618")
	for _, port := range ports {
		list = append(list, "pass in tcp from any port "+port+" to any", "pass in udp from any to any port "+port, "drop both tcp from any port 1 to 10.0.0.0/8 port "+port+" new")
	}
	return list
}

// ruleLines are texts of rules.
func ruleLines() lineKind[impl.Rule] {
	longest := withPorts(ruleOf(impl.FilterReject, impl.DirBoth, impl.ProtoTcp), 10000, 65535, 10000, 65535)
	longest.Src, longest.Dst, longest.State = impl.Prefix{Addr: lastAddr, Bits: 32}, impl.Prefix{Addr: lastAddr - 1, Bits: 31}, impl.StateRelated
	return lineKind[impl.Rule]{
		most: 64, read: impl.ReadRules, show: impl.ShowRules, model: modelRule, plain: plainRule,
		good: edgeRules(), ill: illRules(), illLines: illRuleLines(), random: randomRule, longest: longest,
		pieces: []string{
			"pass", "drop", "reject", "in", "out", "both", "any", "any", "icmp", "tcp", "udp", "from", "to", "10.0.0.0/8", "1.2.3.4/31", "port", "1", "1-2", "2-1", "0-65535", "65536", "new", "known", "related", "stray",
			" ", " ", " ", " ", "\t", "\n", "\n", "#", "-", "\r", "\x00", "\u00a0", "Pass", "\xff",
		},
	}
}

func TestLinesOfRules(t *testing.T) { ruleLines().checkAll(t) }

// P15: lists of valid rules come back from their texts, and an ill line behind them is told by its number.
func TestRulesComeBack(t *testing.T) { ruleLines().checkComeBack(t) }

// P51: whatever it is given a call ends, and answers the same again.
func TestRulesAnswerTheSameAgain(t *testing.T) { ruleLines().checkSameAgain(t) }

// P51: a list stays as it is, the room behind it too, and no answer is its memory or another's.
func TestRulesLeaveTheirList(t *testing.T) { ruleLines().checkLeftAlone(t) }

// Every way to tell a rule, and the one way to show it.
func TestRulesOfAText(t *testing.T) {
	k := ruleLines()
	ten := impl.Prefix{Addr: 10 << 24, Bits: 8}
	web := withPorts(ruleOf(3, 1, 6), 1000, 1010, 80, 80)
	web.Src, web.State = ten, impl.StateNew
	for _, c := range []struct {
		line, shown string
		r           impl.Rule
	}{
		{"pass out any from any to any", "", ruleOf(1, 2, 0)},
		{"pass out any from 0.0.0.0/0 to 0.0.0.0/0", "pass out any from any to any", ruleOf(1, 2, 0)},
		{"drop both icmp from 0.0.0.0/0 to any known", "drop both icmp from any to any known", impl.Rule{Action: 2, Dir: 3, Proto: 1, SrcHigh: 65535, DstHigh: 65535, State: 2}},
		{"reject in tcp from 10.0.0.0/8 port 1000-1010 to any port 80 new", "", web},
		{"reject in tcp from 10.0.0.0/8 port 1000-1010 to any port 80-80 new", "reject in tcp from 10.0.0.0/8 port 1000-1010 to any port 80 new", web},
		{"pass in udp from any port 0 to any", "", withPorts(ruleOf(1, 1, 17), 0, 0, 0, 65535)},
		{"pass in udp from any port 0-0 to any", "pass in udp from any port 0 to any", withPorts(ruleOf(1, 1, 17), 0, 0, 0, 65535)},
		{"pass in udp from any to any port 65535", "", withPorts(ruleOf(1, 1, 17), 0, 65535, 65535, 65535)},
		{"pass in udp from any to any port 1-65535", "", withPorts(ruleOf(1, 1, 17), 0, 65535, 1, 65535)},
		{"pass in udp from any port 0-65534 to any port 0-65535", "pass in udp from any port 0-65534 to any", withPorts(ruleOf(1, 1, 17), 0, 65534, 0, 65535)},
		{"pass in tcp from any port 0-65535 to any port 0-65535 new", "pass in tcp from any to any new", impl.Rule{Action: 1, Dir: 1, Proto: 6, SrcHigh: 65535, DstHigh: 65535, State: 1}},
		// All ports may be told where there are none, too.
		{"pass in icmp from any port 0-65535 to any", "pass in icmp from any to any", ruleOf(1, 1, 1)},
		{"pass in any from any port 0-65535 to any port 0-65535", "pass in any from any to any", ruleOf(1, 1, 0)},
		{"drop in any from any to any related", "", impl.Rule{Action: 2, Dir: 1, SrcHigh: 65535, DstHigh: 65535, State: 3}},
		{"drop in any from any to any stray", "", impl.Rule{Action: 2, Dir: 1, SrcHigh: 65535, DstHigh: 65535, State: 4}},
	} {
		if c.shown == "" {
			c.shown = c.line
		}
		k.checkReads(t, c.line, c.r)
		k.checkShow(t, []impl.Rule{c.r}, c.shown+"\n", impl.OK)
		k.checkReads(t, "# x\n"+c.line+"# y\n\n\t"+c.shown, c.r, c.r)
	}
}

// A rule's numbers, each at and beside the ends of its range: by its text, and by a run.
func TestRulesAskTheirNumbers(t *testing.T) {
	k := ruleLines()
	check := func(r impl.Rule, valid bool) {
		t.Helper()
		text := ""
		if valid {
			text = plainRule(r) + "\n"
		}
		k.checkShow(t, []impl.Rule{r}, text, codeFor(valid))
		if outs, code := impl.RunFilter([]impl.Rule{r}, nil); code != codeFor(valid) || len(outs) != 0 {
			t.Errorf("a run with %+v: %d", r, code)
		}
	}
	for n := int64(-2); n <= 260; n++ {
		check(ruleOf(n, 1, 0), n >= 1 && n <= 3)
		check(ruleOf(1, n, 0), n >= 1 && n <= 3)
		check(ruleOf(1, 1, n), n == 0 || n == 1 || n == 6 || n == 17)
		r := ruleOf(1, 1, 0)
		r.State = n
		check(r, n >= 0 && n <= 4)
	}
	for _, low := range []int64{-1, 0, 1, 80, 65534, 65535, 65536} {
		for _, high := range []int64{-1, 0, 1, 79, 80, 81, 65534, 65535, 65536} {
			for _, proto := range []int64{0, 1, 6, 17} {
				valid := low >= 0 && low <= high && high <= 65535 && (proto > 1 || low == 0 && high == 65535)
				check(withPorts(ruleOf(1, 1, proto), low, high, 0, 65535), valid)
				check(withPorts(ruleOf(1, 1, proto), 0, 65535, low, high), valid)
				check(withPorts(ruleOf(1, 1, proto), low, high, low, high), valid)
			}
		}
	}
	for _, r := range k.good {
		check(r, true)
	}
	for _, r := range k.ill {
		check(r, false)
	}
}

// place is an address and a port there, or the number of an echo.
type place struct{ addr, port int64 }

func here(port int64) place { return place{ownAddr, port} }

func there(port int64) place { return place{near, port} }

// packetBetween has ports at the beginning of its payload.
func packetBetween(proto int64, from, to place, rest ...byte) impl.Packet {
	p := impl.Packet{TTL: 9, Proto: proto, Src: from.addr, Dst: to.addr}
	p.Payload = binary.BigEndian.AppendUint16(p.Payload, uint16(from.port))
	p.Payload = binary.BigEndian.AppendUint16(p.Payload, uint16(to.port))
	p.Payload = append(p.Payload, rest...)
	return p
}

func udpTo(from, to place) impl.Packet { return packetBetween(17, from, to, 0, 8, 0, 0) }

// tcpTo is a segment's packet; but for ports and flags its bytes are such as to be wrong as flags.
func tcpTo(from, to place, flags byte) impl.Packet {
	return packetBetween(6, from, to, 255, 255, 255, 255, 255, 255, 255, 255, 85, flags, 255, 255, 255, 255, 255, 255)
}

// icmpTo is a message with the right sum.
func icmpTo(kind byte, from, to int64, number int64, body ...byte) impl.Packet {
	m := impl.Icmp{Type: int64(kind), Rest: number<<16 + 0x5A5A, Body: body}
	return impl.Packet{TTL: 9, Proto: 1, Src: from, Dst: to, Payload: plainIcmp(m)}
}

func echoTo(from, to int64, number int64) impl.Packet { return icmpTo(8, from, to, number) }

func echoReplyTo(from, to int64, number int64) impl.Packet { return icmpTo(0, from, to, number) }

// complaintAbout need not be one that Complain makes: whatever packet there is may be told of.
func complaintAbout(p impl.Packet, kind, code int64) impl.Packet {
	b := plainPacket(p)
	body := b[:min(len(b), 20+len(p.Options)+8)]
	return impl.Packet{TTL: 64, Proto: 1, Src: complainer, Dst: p.Src, Payload: plainIcmp(impl.Icmp{Type: kind, Code: code, Body: body})}
}

func goingIn(p impl.Packet) impl.FilterOp {
	return impl.FilterOp{Kind: impl.FilterTake, Dir: impl.DirIn, Packet: p}
}

func goingOut(p impl.Packet) impl.FilterOp {
	return impl.FilterOp{Kind: impl.FilterTake, Dir: impl.DirOut, Packet: p}
}

func filterWaits(wait int64) impl.FilterOp {
	return impl.FilterOp{Kind: impl.FilterWait, Wait: wait}
}

// judged is what is told of a packet.
func judged(verdict, state, rule, flows int64) impl.FilterOut {
	return impl.FilterOut{Verdict: verdict, State: state, Rule: rule, Flows: flows}
}

// passed is what is told of a packet that the first rule lets pass.
func passed(state, flows int64) impl.FilterOut { return judged(1, state, 0, flows) }

func follows(flows int64) impl.FilterOut { return impl.FilterOut{Flows: flows} }

func refusesOp(flows int64) impl.FilterOut {
	return impl.FilterOut{Code: impl.ErrForm, Flows: flows}
}

// rulesOf are those of a text that must be right.
func rulesOf(t *testing.T, text string) []impl.Rule {
	t.Helper()
	list, code, line := impl.ReadRules(text)
	if code != impl.OK {
		t.Fatalf("ReadRules(%q): %d, %d", text, code, line)
	}
	return list
}

// allPass lets every packet pass.
func allPass() []impl.Rule { return []impl.Rule{ruleOf(1, 3, 0)} }

type filterStep = step[impl.FilterOp, impl.FilterOut]

// checkFilter asks of a run what its steps tell, and of these what the model does.
func checkFilter(t *testing.T, rules []impl.Rule, steps ...filterStep) {
	t.Helper()
	run := func(ops []impl.FilterOp) ([]impl.FilterOut, int64) { return impl.RunFilter(rules, ops) }
	checkRunOf(t, run, func(a, b impl.FilterOut) bool { return a == b }, steps)
	m := modelFilter{rules: rules}
	for i, s := range steps {
		if want := m.do(s.op); want != s.want {
			t.Errorf("operation %d, %s: the test asks for %v, the model tells %v", i, shortly(s.op), s.want, want)
		}
	}
}

// modelFlow is a flow that is followed; the first side is that of the packet that began it.
type modelFlow struct {
	proto              int64
	first, second      place
	used               int64
	rst                bool
	firstFin, otherFin bool
}

// modelFilter has its flows in the order in which they were begun.
type modelFilter struct {
	rules []impl.Rule
	flows []modelFlow
	now   int64
}

func modelEnds(p impl.Packet) (from, to place, found bool) {
	if p.Offset > 0 || p.MF {
		return place{}, place{}, false
	}
	n := len(p.Payload)
	switch {
	case (p.Proto == 6 || p.Proto == 17) && n >= 4:
		return place{p.Src, numberOf(p.Payload, 0, 2)}, place{p.Dst, numberOf(p.Payload, 2, 2)}, true
	case p.Proto == 1 && n >= 8 && (p.Payload[0] == 8 || p.Payload[0] == 0):
		number := numberOf(p.Payload, 4, 2)
		return place{p.Src, number}, place{p.Dst, number}, true
	}
	return place{}, place{}, false
}

// find is the place of a flow in the list, or -1.
func (m *modelFilter) find(proto int64, from, to place) int {
	return slices.IndexFunc(m.flows, func(f modelFlow) bool {
		return f.proto == proto && (f.first == from && f.second == to || f.first == to && f.second == from)
	})
}

func (m *modelFilter) related(p impl.Packet) bool {
	if p.Proto != 1 || p.Offset > 0 || p.MF {
		return false
	}
	said, code := modelDecodeIcmp(p.Payload)
	if code != impl.OK || said.Type != 3 && said.Type != 11 {
		return false
	}
	q, code := modelReadQuote(said.Body)
	return code == impl.OK && (q.Proto == 6 || q.Proto == 17) && m.find(q.Proto, place{q.Src, q.SrcPort}, place{q.Dst, q.DstPort}) >= 0
}

func (m *modelFilter) state(p impl.Packet) int64 {
	from, to, ends := modelEnds(p)
	n := len(p.Payload)
	switch {
	case ends && m.find(p.Proto, from, to) >= 0:
		return impl.StateKnown
	case m.related(p):
		return impl.StateRelated
	case !ends, p.Proto == 6 && (n < 14 || p.Payload[13]&2 == 0 || p.Payload[13]&16 != 0), p.Proto == 1 && p.Payload[0] != 8:
		return impl.StateStray
	}
	return impl.StateNew
}

func modelFits(r impl.Rule, dir, state int64, p impl.Packet) bool {
	from, to, ends := modelEnds(p)
	all := r.SrcLow == 0 && r.SrcHigh == 65535 && r.DstLow == 0 && r.DstHigh == 65535
	within := ends && from.port >= r.SrcLow && from.port <= r.SrcHigh && to.port >= r.DstLow && to.port <= r.DstHigh
	return (r.Dir == dir || r.Dir == 3) && (r.Proto == p.Proto || r.Proto == 0) && modelHas(r.Src, p.Src) && modelHas(r.Dst, p.Dst) &&
		(all || within) && (r.State == state || r.State == 0)
}

func (m *modelFilter) take(dir int64, p impl.Packet) impl.FilterOut {
	state := m.state(p)
	out := judged(2, state, -1, 0)
	for i, r := range m.rules {
		if modelFits(r, dir, state, p) {
			out = judged(r.Action, state, int64(i), 0)
			break
		}
	}
	if out.Verdict != 1 || state != impl.StateNew && state != impl.StateKnown {
		return out
	}
	from, to, _ := modelEnds(p)
	if state == impl.StateNew {
		m.leaveRoom()
		m.flows = append(m.flows, modelFlow{proto: p.Proto, first: from, second: to})
	}
	f := &m.flows[m.find(p.Proto, from, to)]
	f.used = m.now
	if p.Proto == 6 && len(p.Payload) >= 14 {
		f.rst = f.rst || p.Payload[13]&4 != 0
		if p.Payload[13]&1 != 0 && from == f.first {
			f.firstFin = true
		} else if p.Payload[13]&1 != 0 {
			f.otherFin = true
		}
	}
	return out
}

// leaveRoom forgets the flow whose use is the earliest; the first one in the list was begun first.
func (m *modelFilter) leaveRoom() {
	if len(m.flows) < 64 {
		return
	}
	worst := 0
	for i, f := range m.flows {
		if f.used < m.flows[worst].used {
			worst = i
		}
	}
	m.flows = slices.Delete(m.flows, worst, worst+1)
}

func (m *modelFilter) wait(wait int64) {
	m.now += wait
	m.flows = slices.DeleteFunc(m.flows, func(f modelFlow) bool {
		stays := map[int64]int64{1: 10000, 6: 300000, 17: 30000}[f.proto]
		if f.proto == 6 && (f.rst || f.firstFin && f.otherFin) {
			stays = 10000
		}
		return f.used+stays <= m.now
	})
}

func (m *modelFilter) do(op impl.FilterOp) impl.FilterOut {
	var out impl.FilterOut
	_, code := impl.EncodeIP(op.Packet)
	switch {
	case op.Kind == 1 && (op.Dir == 1 || op.Dir == 2) && code == impl.OK:
		out = m.take(op.Dir, op.Packet)
	case op.Kind == 2 && op.Wait >= 0 && op.Wait <= impl.MaxTime && m.now+op.Wait <= impl.MaxTime:
		m.wait(op.Wait)
	default:
		out.Code = impl.ErrForm
	}
	out.Flows = int64(len(m.flows))
	return out
}

// A stream, a datagram and an echo out and back, with rules that let in what is known alone.
func TestFilterFollowsFlows(t *testing.T) {
	rules := rulesOf(t, "pass out any from any to any\npass in any from any to any known\nreject in any from any to any\n")
	a, b := here(1000), there(80)
	checkFilter(t, rules,
		filterStep{goingIn(tcpTo(b, a, syn|ack)), judged(3, 4, 2, 0)},
		filterStep{goingIn(tcpTo(b, a, syn)), judged(3, 1, 2, 0)},
		filterStep{goingOut(tcpTo(a, b, syn)), judged(1, 1, 0, 1)},
		filterStep{goingIn(tcpTo(b, a, syn|ack)), judged(1, 2, 1, 1)},
		filterStep{goingOut(tcpTo(a, b, ack)), judged(1, 2, 0, 1)},
		filterStep{goingIn(udpTo(b, a)), judged(3, 1, 2, 1)},
		filterStep{goingOut(udpTo(a, b)), judged(1, 1, 0, 2)},
		filterStep{goingIn(udpTo(b, a)), judged(1, 2, 1, 2)},
		filterStep{goingIn(echoTo(near, ownAddr, 7)), judged(3, 1, 2, 2)},
		filterStep{goingIn(echoReplyTo(near, ownAddr, 7)), judged(3, 4, 2, 2)},
		filterStep{goingOut(echoTo(ownAddr, near, 7)), judged(1, 1, 0, 3)},
		filterStep{goingIn(echoReplyTo(near, ownAddr, 7)), judged(1, 2, 1, 3)},
		filterStep{goingIn(echoReplyTo(near, ownAddr, 8)), judged(3, 4, 2, 3)},
		filterStep{goingIn(echoTo(near, ownAddr, 7)), judged(1, 2, 1, 3)},
		filterStep{goingIn(complaintAbout(udpTo(a, b), 3, 3)), judged(3, 3, 2, 3)},
		filterStep{filterWaits(echoStays), follows(2)},
		filterStep{filterWaits(udpStays - echoStays), follows(1)},
		filterStep{filterWaits(tcpStays - udpStays), follows(0)},
	)
}

func runFilter(t *testing.T, rules []impl.Rule, ops ...impl.FilterOp) []impl.FilterOut {
	t.Helper()
	return runAll(t, func(ops []impl.FilterOp) ([]impl.FilterOut, int64) { return impl.RunFilter(rules, ops) }, ops)
}

// checkState asks in which state a packet is behind others; all of them pass.
func checkState(t *testing.T, p impl.Packet, want int64, ahead ...impl.Packet) {
	t.Helper()
	m := modelFilter{rules: allPass()}
	var ops []impl.FilterOp
	var model impl.FilterOut
	for _, q := range append(ahead, p) {
		ops = append(ops, goingOut(q))
		model = m.do(goingOut(q))
	}
	outs := runFilter(t, allPass(), ops...)
	if last := outs[len(outs)-1]; last.State != want || last != model {
		t.Errorf("%s behind %s: %v, not in state %d; the model: %v", shortly(p), shortly(ahead), last, want, model)
	}
}

// eitherState is one state if something holds, and another one else.
func eitherState(holds bool, yes, no int64) int64 {
	if holds {
		return yes
	}
	return no
}

// Ends need 4 bytes, of a message 8, and the flags of a segment 14.
func TestFilterEndsNeedTheirBytes(t *testing.T) {
	udp, tcp, echo := udpTo(here(7), there(9)), tcpTo(here(7), there(9), syn), icmpTo(8, ownAddr, near, 7, 1, 2, 3, 4, 5, 6, 7, 8)
	udp.Payload = append(udp.Payload, make([]byte, 12)...)
	cut := func(p impl.Packet, n int) impl.Packet {
		p.Payload = p.Payload[:min(n, len(p.Payload))]
		return p
	}
	withPort := rulesOf(t, "pass out tcp from any port 7 to any\npass out udp from any to any port 9\nreject out any from any to any")
	for n := range 21 {
		checkState(t, cut(udp, n), eitherState(n >= 4, 1, 4))
		checkState(t, cut(udp, n), eitherState(n >= 4, 2, 4), udp)
		checkState(t, cut(tcp, n), eitherState(n >= 14, 1, 4))
		checkState(t, cut(tcp, n), eitherState(n >= 4, 2, 4), tcp)
		checkState(t, cut(echo, n), eitherState(n >= 8, 1, 4))
		checkState(t, cut(echo, n), eitherState(n >= 8, 2, 4), echo)
		if n < 4 {
			checkFilter(t, withPort, filterStep{goingOut(cut(udp, n)), judged(3, 4, 2, 0)}, filterStep{goingOut(cut(tcp, n)), judged(3, 4, 2, 0)})
			continue
		}
		checkFilter(t, withPort, filterStep{goingOut(cut(udp, n)), judged(1, 1, 1, 1)})
		if n < 14 {
			checkFilter(t, withPort, filterStep{goingOut(cut(tcp, n)), judged(1, 4, 0, 0)})
		} else {
			checkFilter(t, withPort, filterStep{goingOut(cut(tcp, n)), judged(1, 1, 0, 1)})
		}
	}
}

// A fragment has no ends, not even the first one, which has the bytes of them.
func TestFilterFragmentsHaveNoEnds(t *testing.T) {
	withPort := rulesOf(t, "pass out tcp from any port 0-65534 to any\npass out udp from any to any port 1-65535\ndrop out any from any to any")
	for _, whole := range []impl.Packet{udpTo(here(7), there(9)), tcpTo(here(7), there(9), syn), echoTo(ownAddr, near, 7)} {
		for _, f := range []impl.Packet{{MF: true}, {Offset: 8}, {Offset: 8, MF: true}, {Offset: 65000}, {DF: true, MF: true}, {DF: true, Offset: 16}} {
			p := whole
			p.DF, p.MF, p.Offset = f.DF, f.MF, f.Offset
			checkState(t, p, impl.StateStray)
			checkState(t, p, impl.StateStray, whole)
			checkFilter(t, withPort, filterStep{goingOut(p), judged(2, 4, 2, 0)})
		}
		whole.DF = true
		checkState(t, whole, impl.StateNew)
	}
}

// Only three protocols have ends.
func TestFilterProtocolsWithEnds(t *testing.T) {
	for proto := range int64(256) {
		p := tcpTo(place{ownAddr, 8 << 8}, there(9), syn)
		p.Proto = proto
		has := proto == 1 || proto == 6 || proto == 17
		checkState(t, p, eitherState(has, 1, 4))
		checkState(t, p, eitherState(has, 2, 4), p)
	}
}

// Of messages echoes and their replies have ends, whatever their sum is; an echo alone is new.
func TestFilterEchoes(t *testing.T) {
	for kind := range 256 {
		for _, body := range [][]byte{nil, make([]byte, 40)} {
			p := icmpTo(byte(kind), ownAddr, near, 77, body...)
			back := icmpTo(byte(kind), near, ownAddr, 77, body...)
			checkState(t, p, eitherState(kind == 8, 1, 4))
			for _, known := range []impl.Packet{p, back} {
				checkState(t, known, eitherState(kind == 0 || kind == 8, 2, 4), echoTo(ownAddr, near, 77))
				known.Payload[2] ^= 255
				checkState(t, known, eitherState(kind == 0 || kind == 8, 2, 4), echoTo(ownAddr, near, 77))
			}
		}
	}
	// Of all bytes but the first one, which is the type, just two count.
	for i := 1; i < 8; i++ {
		for bit := range 8 {
			p := echoTo(ownAddr, near, 77)
			p.Payload[i] ^= 1 << bit
			checkState(t, p, eitherState(i == 4 || i == 5, 1, 2), echoTo(ownAddr, near, 77))
			reply := echoReplyTo(near, ownAddr, 77)
			reply.Payload[i] ^= 1 << bit
			checkState(t, reply, eitherState(i == 4 || i == 5, 4, 2), echoTo(ownAddr, near, 77))
		}
	}
}

// A packet is of a flow if both of its sides are, either way round; a side is an address and an end together.
func TestFilterFlowsEitherWay(t *testing.T) {
	places := []place{here(1), here(2), there(1), there(2), {ownAddr, 65535}, {near, 0}, {0, 1}, {lastAddr, 2}}
	for _, from := range places {
		for _, to := range places {
			for _, a := range places {
				for _, b := range places {
					same := a == from && b == to || a == to && b == from
					checkState(t, udpTo(a, b), eitherState(same, 2, 1), udpTo(from, to))
					checkState(t, tcpTo(a, b, ack), eitherState(same, 2, 4), tcpTo(from, to, syn))
				}
			}
		}
	}
	for _, from := range places {
		for _, to := range places {
			for _, number := range []int64{0, 1, 65535} {
				same := from.port == number
				checkState(t, echoTo(from.addr, to.addr, number), eitherState(same, 2, 1), echoTo(from.addr, to.addr, from.port))
				checkState(t, echoReplyTo(to.addr, from.addr, number), eitherState(same, 2, 4), echoTo(from.addr, to.addr, from.port))
			}
		}
	}
	checkState(t, echoReplyTo(near+1, ownAddr, 7), impl.StateStray, echoTo(ownAddr, near, 7))
}

// Protocols do not meet, though their ends are the same.
func TestFilterFlowsOfOneProtocol(t *testing.T) {
	udp, tcp, echo := udpTo(here(7), there(7)), tcpTo(here(7), there(7), syn), echoTo(ownAddr, near, 7)
	checkState(t, udp, impl.StateNew, tcp, echo)
	checkState(t, tcp, impl.StateNew, udp, echo)
	checkState(t, echo, impl.StateNew, udp, tcp)
	for _, p := range []impl.Packet{udp, tcp, echo} {
		checkState(t, p, impl.StateKnown, udp, tcp, echo)
	}
}

// A segment is new with SYN and without ACK, whatever its other flags are.
func TestFilterNewSegments(t *testing.T) {
	for flags := range 256 {
		fresh := flags&syn != 0 && flags&ack == 0
		p := tcpTo(here(1), there(2), byte(flags))
		checkState(t, p, eitherState(fresh, 1, 4))
		checkState(t, p, impl.StateKnown, tcpTo(there(2), here(1), syn))
		p.Payload = p.Payload[:14]
		checkState(t, p, eitherState(fresh, 1, 4))
		p.Payload = p.Payload[:13]
		checkState(t, p, impl.StateStray)
		// The same byte elsewhere is none.
		p.Payload = append(p.Payload, 0, byte(flags), byte(flags))
		checkState(t, p, impl.StateStray)
	}
}

// quotedFlows are packets of which each begins a flow, and which a complaint tells of as it is or the other way round.
func quotedFlows() []impl.Packet {
	return []impl.Packet{tcpTo(here(1000), there(80), syn), udpTo(here(1000), there(53)), udpTo(here(5), here(5)), tcpTo(place{}, place{lastAddr, lastPort}, syn)}
}

func turnedRound(p impl.Packet) impl.Packet {
	p = clonePacket(p)
	p.Src, p.Dst = p.Dst, p.Src
	copy(p.Payload, append(slices.Clone(p.Payload[2:4]), p.Payload[:2]...))
	return p
}

// Of all types two are related to a flow, whatever their code is and from whom to whom they go.
func TestFilterRelatedComplaints(t *testing.T) {
	for _, p := range quotedFlows() {
		for _, about := range []impl.Packet{p, turnedRound(p)} {
			for kind := range int64(256) {
				want := eitherState(kind == 3 || kind == 11, 3, 4)
				for _, code := range []int64{0, 1, 4, 13, 255} {
					c := complaintAbout(about, kind, code)
					// Of the kind of an echo the code and the sum are not looked at: it is one.
					if kind == 8 {
						want = impl.StateNew
					}
					checkState(t, c, want, p)
				}
			}
			c := complaintAbout(about, impl.IcmpUnreachable, impl.CodePort)
			checkState(t, c, impl.StateStray)
			c.Src, c.Dst, c.TTL, c.Tos, c.ID, c.DF, c.Options = 0, lastAddr, 0, 255, 9, true, make([]byte, 40)
			checkState(t, c, impl.StateRelated, p)
		}
	}
}

// The flow that is told of must be followed, and be one of ports.
func TestFilterRelatedToWhat(t *testing.T) {
	udp, tcp, echo := udpTo(here(7), there(9)), tcpTo(here(7), there(9), syn), echoTo(ownAddr, near, 7)
	for _, kind := range []int64{impl.IcmpUnreachable, impl.IcmpExceeded} {
		checkState(t, complaintAbout(udp, kind, 0), impl.StateStray, tcp, echo)
		checkState(t, complaintAbout(tcp, kind, 0), impl.StateStray, udp, echo)
		checkState(t, complaintAbout(echo, kind, 0), impl.StateStray, udp, tcp, echo)
		checkState(t, complaintAbout(udp, kind, 0), impl.StateRelated, tcp, echo, udp)
		checkState(t, complaintAbout(tcp, kind, 0), impl.StateRelated, udp, echo, tcp)
		for proto := range int64(256) {
			other := udp
			other.Proto = proto
			checkState(t, complaintAbout(other, kind, 0), eitherState(proto == 6 || proto == 17, 3, 4), udp, tcp, echo)
		}
		for _, other := range []impl.Packet{udpTo(here(9), there(7)), udpTo(here(7), there(8)), udpTo(here(8), there(9)), udpTo(place{ownAddr + 1, 7}, there(9)), udpTo(here(7), place{near + 1, 9})} {
			checkState(t, complaintAbout(other, kind, 0), impl.StateStray, udp, tcp, echo)
		}
		// Not even where the bytes of a quoted message tell the number of an echo twice.
		twice := impl.Packet{Proto: impl.ProtoIcmp, Src: ownAddr, Dst: near, Payload: []byte{8, 0, 8, 0, 0, 0, 0, 0}}
		checkState(t, complaintAbout(twice, kind, 0), impl.StateStray, echoTo(ownAddr, near, 8<<8))
		// A complaint about a complaint tells of no ports.
		checkState(t, complaintAbout(complaintAbout(udp, kind, 0), kind, 0), impl.StateStray, udp)
		checkFilter(t, allPass(),
			filterStep{goingOut(udp), passed(1, 1)}, filterStep{goingIn(complaintAbout(udp, kind, 0)), passed(3, 1)},
			filterStep{filterWaits(udpStays), follows(0)}, filterStep{goingIn(complaintAbout(udp, kind, 0)), passed(4, 0)})
	}
}

// A quote is the head with its options and 8 bytes; the fields of that head do not matter else.
func TestFilterQuotes(t *testing.T) {
	for _, p := range quotedFlows() {
		for words := range 11 {
			about := clonePacket(p)
			about.Options = make([]byte, 4*words)
			about.Tos, about.ID, about.DF, about.TTL = 1, 2, true, 255
			b := plainPacket(about)
			for n := range len(b) {
				m := plainIcmp(impl.Icmp{Type: 3, Code: 3, Body: b[:n]})
				c := impl.Packet{Proto: 1, Src: complainer, Dst: ownAddr, Payload: m}
				checkState(t, c, eitherState(n >= 20+4*words+8, 3, 4), p)
			}
			about.MF, about.Offset = true, 16
			checkState(t, complaintAbout(about, 11, 1), impl.StateRelated, p)
		}
		about := clonePacket(p)
		for len(about.Payload) > 0 {
			checkState(t, complaintAbout(about, 3, 0), eitherState(len(about.Payload) >= 8, 3, 4), p)
			about.Payload = about.Payload[:len(about.Payload)-1]
		}
	}
}

// Any bit turned in a complaint spoils it; with the sums right again it depends on what the bit tells.
func TestFilterSpoiltComplaints(t *testing.T) {
	p := udpTo(here(1000), there(53))
	right := complaintAbout(p, 3, 3)
	for bit := range 8 * len(right.Payload) {
		c := clonePacket(right)
		turnBit(c.Payload, bit)
		// One bit away from the type 3 there is no echo.
		checkState(t, c, impl.StateStray, p)
		resumIcmp(c.Payload)
		at := bit / 8
		want := int64(impl.StateStray)
		if at >= 1 && at < 8 || at >= 32 {
			want = impl.StateRelated
		}
		if at == 0 {
			want = eitherState(c.Payload[0] == 11, 3, 4)
		}
		checkState(t, c, want, p)
	}
}

// A complaint in fragments, or of more bytes than a message may have, is none.
func TestFilterComplaintsThatAreNone(t *testing.T) {
	p := udpTo(here(1000), there(53))
	for _, f := range []impl.Packet{{MF: true}, {Offset: 8}, {Offset: 24, MF: true}} {
		c := complaintAbout(p, 3, 3)
		c.MF, c.Offset = f.MF, f.Offset
		checkState(t, c, impl.StateStray, p)
	}
	for n, want := range map[int]int64{28: 3, 29: 3, 1000: 3, mostBody - 1: 3, mostBody: 3, mostBody + 1: 4, mostBody + 2: 4, impl.MaxPacket - 28: 4} {
		body := append(plainPacket(p), make([]byte, mostData)...)[:n]
		c := impl.Packet{Proto: 1, Src: complainer, Dst: ownAddr, Payload: plainIcmp(impl.Icmp{Type: 11, Body: body})}
		checkState(t, c, want, p)
	}
	for proto := range int64(256) {
		c := complaintAbout(p, 3, 3)
		c.Proto = proto
		want := eitherState(proto == 17, 1, 4)
		if proto == 1 {
			want = impl.StateRelated
		}
		checkState(t, c, want, p)
	}
}

// The first rule that fits decides, whatever stands behind it; where none fits a packet is dropped.
func TestFilterFirstRuleDecides(t *testing.T) {
	p := udpTo(here(7), there(9))
	checkFilter(t, nil, filterStep{goingIn(p), judged(2, 1, -1, 0)}, filterStep{goingOut(p), judged(2, 1, -1, 0)})
	for action := int64(1); action <= 3; action++ {
		other := action%3 + 1
		flows := oneIf(action == 1)
		for _, ahead := range []int{0, 1, 5, 63} {
			// Those ahead do not fit, each for one reason.
			elsewhere := []impl.Rule{ruleOf(other, 1, 0), ruleOf(other, 2, 6), withPorts(ruleOf(other, 2, 17), 8, 8, 0, 65535), ruleOf(other, 3, 1), withPorts(ruleOf(other, 3, 17), 0, 65535, 0, 8)}
			var rules []impl.Rule
			for i := range ahead {
				rules = append(rules, elsewhere[i%len(elsewhere)])
			}
			rules = append(rules, ruleOf(action, 2, 17))
			checkFilter(t, rules, filterStep{goingOut(p), judged(action, 1, int64(ahead), flows)})
			for len(rules) < impl.MaxRules {
				rules = append(rules, ruleOf(other, 3, 0))
			}
			checkFilter(t, rules, filterStep{goingOut(p), judged(action, 1, int64(ahead), flows)})
		}
	}
}

func oneIf(holds bool) int64 {
	if holds {
		return 1
	}
	return 0
}

// checkFits asks whether a rule that drops fits a packet, by that it decides, or the one behind it.
func checkFits(t *testing.T, r impl.Rule, op impl.FilterOp, state int64, fits bool) {
	t.Helper()
	r.Action = impl.FilterDrop
	want := judged(3, state, 1, 0)
	if fits {
		want = judged(2, state, 0, 0)
	}
	checkFilter(t, []impl.Rule{r, ruleOf(3, 3, 0)}, filterStep{op, want})
}

func TestFilterRulesAskDirectionAndProtocol(t *testing.T) {
	for dir := int64(1); dir <= 3; dir++ {
		for _, proto := range []int64{0, 1, 6, 17} {
			for other := range int64(256) {
				p := tcpTo(place{ownAddr, 8 << 8}, there(9), syn)
				p.Proto = other
				state := eitherState(other == 1 || other == 6 || other == 17, 1, 4)
				fits := proto == 0 || proto == other
				checkFits(t, ruleOf(2, dir, proto), goingIn(p), state, fits && dir != 2)
				checkFits(t, ruleOf(2, dir, proto), goingOut(p), state, fits && dir != 1)
			}
		}
	}
}

func TestFilterRulesAskAddresses(t *testing.T) {
	for _, prefix := range somePrefixes() {
		from, to, _ := validInterval(prefix)
		for _, addr := range []int64{from - 1, from, from + 1, to - 1, to, to + 1, 0, lastAddr} {
			if addr < 0 || addr > lastAddr {
				continue
			}
			fits := addr >= from && addr <= to
			src, dst, both := ruleOf(2, 3, 0), ruleOf(2, 3, 17), ruleOf(2, 3, 17)
			src.Src, dst.Dst, both.Src, both.Dst = prefix, prefix, prefix, prefix
			checkFits(t, src, goingIn(udpTo(place{addr, 1}, there(2))), 1, fits)
			checkFits(t, dst, goingIn(udpTo(here(1), place{addr, 2})), 1, fits)
			checkFits(t, both, goingOut(udpTo(place{addr, 1}, place{from, 2})), 1, fits)
			checkFits(t, both, goingOut(udpTo(place{to, 1}, place{addr, 2})), 1, fits)
		}
	}
}

// Ports must be within both ranges, ends with them; packets without ends fit where all ports do.
func TestFilterRulesAskPorts(t *testing.T) {
	ports := []int64{0, 1, 2, 9, 10, 11, 79, 80, 81, 82, 98, 99, 1000, 1001, 9999, 10000, 60000, 60001, 65533, 65534, 65535}
	for _, within := range portRanges() {
		all := within == [2]int64{0, 65535}
		for _, port := range ports {
			fits := port >= within[0] && port <= within[1]
			src, dst := withPorts(ruleOf(2, 3, 17), within[0], within[1], 0, 65535), withPorts(ruleOf(2, 3, 17), 0, 65535, within[0], within[1])
			both := withPorts(ruleOf(2, 3, 6), within[0], within[1], within[0], within[1])
			checkFits(t, src, goingIn(udpTo(here(port), there(80))), 1, fits)
			checkFits(t, src, goingIn(udpTo(here(within[0]), there(port))), 1, true)
			checkFits(t, dst, goingIn(udpTo(here(80), there(port))), 1, fits)
			checkFits(t, dst, goingIn(udpTo(here(port), there(within[1]))), 1, true)
			checkFits(t, both, goingOut(tcpTo(here(port), there(within[0]), ack)), 4, fits)
			checkFits(t, both, goingOut(tcpTo(here(within[1]), there(port), syn)), 1, fits)
			for _, p := range []impl.Packet{udpTo(here(port), there(port)), udpTo(here(within[0]), there(within[1]))} {
				short, piece := clonePacket(p), p
				short.Payload = short.Payload[:3]
				piece.MF = true
				for _, r := range []impl.Rule{src, dst} {
					checkFits(t, r, goingIn(short), 4, all)
					checkFits(t, r, goingIn(piece), 4, all)
				}
			}
		}
	}
}

// A rule's state is the packet's, or any.
func TestFilterRulesAskTheState(t *testing.T) {
	udp := udpTo(here(7), there(9))
	packets := map[int64]impl.Packet{1: udpTo(here(8), there(9)), 2: turnedRound(udp), 3: complaintAbout(udp, 3, 3), 4: tcpTo(here(7), there(9), ack)}
	for state := range int64(5) {
		for is, p := range packets {
			r := ruleOf(2, 1, 0)
			r.State = state
			want := judged(3, is, 2, 1)
			if state == 0 || state == is {
				want = judged(2, is, 1, 1)
			}
			checkFilter(t, []impl.Rule{ruleOf(1, 2, 0), r, ruleOf(3, 3, 0)}, filterStep{goingOut(udp), passed(1, 1)}, filterStep{goingIn(p), want})
		}
	}
}

// Only what passes begins a flow, uses it, or ends it; and of that neither what is related nor what is stray.
func TestFilterFollowsWhatPasses(t *testing.T) {
	a, b := here(1000), there(80)
	for _, action := range []string{"drop", "reject"} {
		verdict := map[string]int64{"drop": 2, "reject": 3}[action]
		rules := rulesOf(t, "pass out any from any to any\n"+action+" in any from any to any\n")
		for _, p := range []impl.Packet{tcpTo(b, a, syn), udpTo(b, a), echoTo(near, ownAddr, 7)} {
			checkFilter(t, rules, filterStep{goingIn(p), judged(verdict, 1, 1, 0)}, filterStep{goingIn(p), judged(verdict, 1, 1, 0)},
				filterStep{goingOut(p), passed(1, 1)}, filterStep{goingIn(p), judged(verdict, 2, 1, 1)})
		}
		// What comes in uses nothing: time runs from what went out.
		checkFilter(t, rules, filterStep{goingOut(udpTo(a, b)), passed(1, 1)}, filterStep{filterWaits(udpStays - 1), follows(1)},
			filterStep{goingIn(udpTo(b, a)), judged(verdict, 2, 1, 1)}, filterStep{filterWaits(1), follows(0)})
		// Nor does it end anything.
		checkFilter(t, rules, filterStep{goingOut(tcpTo(a, b, syn)), passed(1, 1)}, filterStep{goingOut(tcpTo(a, b, fin)), passed(2, 1)},
			filterStep{goingIn(tcpTo(b, a, fin)), judged(verdict, 2, 1, 1)}, filterStep{goingIn(tcpTo(b, a, rst)), judged(verdict, 2, 1, 1)},
			filterStep{filterWaits(tcpStays - 1), follows(1)}, filterStep{filterWaits(1), follows(0)})
	}
	checkFilter(t, nil, filterStep{goingOut(udpTo(a, b)), judged(2, 1, -1, 0)}, filterStep{goingIn(udpTo(b, a)), judged(2, 1, -1, 0)})
	stray := tcpTo(a, b, ack)
	checkFilter(t, allPass(), filterStep{goingOut(stray), passed(4, 0)}, filterStep{goingOut(stray), passed(4, 0)}, filterStep{goingIn(echoReplyTo(near, ownAddr, 7)), passed(4, 0)})
	for _, kind := range []int64{3, 11} {
		checkFilter(t, allPass(), filterStep{goingOut(udpTo(a, b)), passed(1, 1)}, filterStep{filterWaits(udpStays - 1), follows(1)},
			filterStep{goingIn(complaintAbout(udpTo(a, b), kind, 0)), passed(3, 1)}, filterStep{filterWaits(1), follows(0)})
	}
}

// probing lets out what it then tells of: what comes in is dropped, and changes nothing.
func probing(t *testing.T) []impl.Rule {
	return rulesOf(t, "pass out any from any to any\ndrop in any from any to any")
}

// fullFilter begins as many flows as there may be, by datagrams to ports from 1 on, all at one time.
func fullFilter() []filterStep {
	var steps []filterStep
	for i := range int64(impl.MaxFlows) {
		steps = append(steps, filterStep{goingOut(udpTo(here(7), there(i+1))), passed(1, i+1)})
	}
	return steps
}

// probes ask which of the flows to ports from 1 on are followed, of those up to a last one.
func probes(last int64, gone ...int64) []filterStep {
	var steps []filterStep
	for port := int64(1); port <= last; port++ {
		state := eitherState(slices.Contains(gone, port), 1, 2)
		steps = append(steps, filterStep{goingIn(udpTo(there(port), here(7))), judged(2, state, 1, impl.MaxFlows)})
	}
	return steps
}

// One flow more than there may be makes the one give way that was used at the earliest time.
func TestFilterOneFlowBeyond(t *testing.T) {
	rules := probing(t)
	again := func(port int64) filterStep {
		return filterStep{goingOut(udpTo(here(7), there(port))), passed(2, impl.MaxFlows)}
	}
	fresh := func(port int64) filterStep {
		return filterStep{goingOut(udpTo(here(7), there(port))), passed(1, impl.MaxFlows)}
	}
	pause := filterStep{filterWaits(1), follows(impl.MaxFlows)}
	run := func(steps ...filterStep) {
		t.Helper()
		checkFilter(t, rules, append(fullFilter(), steps...)...)
	}
	run(probes(64)...)
	// All used at one time: the one that was begun first.
	run(append([]filterStep{fresh(65)}, probes(65, 1)...)...)
	run(append([]filterStep{pause, fresh(65)}, probes(65, 1)...)...)
	run(append([]filterStep{fresh(65), fresh(66), fresh(67)}, probes(67, 1, 2, 3)...)...)
	// A use at the same time changes nothing, one at a later time does.
	run(append([]filterStep{again(1), fresh(65)}, probes(65, 1)...)...)
	run(append([]filterStep{pause, again(1), fresh(65)}, probes(65, 2)...)...)
	run(append([]filterStep{pause, again(1), again(3), fresh(65), fresh(66)}, probes(66, 2, 4)...)...)
	// A use from the other side is one.
	run(append([]filterStep{pause, {goingOut(udpTo(there(1), here(7))), passed(2, impl.MaxFlows)}, fresh(65)}, probes(65, 2)...)...)
	// One that comes again is begun last.
	run(append([]filterStep{fresh(65), fresh(1), fresh(2)}, probes(65, 3)...)...)
	// What is not new, or does not pass, makes nobody give way.
	run(append([]filterStep{
		again(1), {goingIn(udpTo(here(7), there(65))), judged(2, 1, 1, impl.MaxFlows)},
		{goingOut(tcpTo(here(7), there(65), ack)), passed(4, impl.MaxFlows)}, {goingOut(complaintAbout(udpTo(here(7), there(1)), 3, 3)), passed(3, impl.MaxFlows)},
	}, probes(64)...)...)
}

// All used at times of their own, in any order, give way in the order of these.
func TestFilterFlowsGiveWayByTime(t *testing.T) {
	chance := newChance()
	for range 30 {
		ports := make([]int64, impl.MaxFlows)
		for i := range ports {
			ports[i] = int64(i) + 1
		}
		order := shuffled(chance, ports)
		steps := fullFilter()
		for _, port := range order {
			steps = append(steps, filterStep{filterWaits(1), follows(impl.MaxFlows)}, filterStep{goingOut(udpTo(here(7), there(port))), passed(2, impl.MaxFlows)})
		}
		gone := chance.Intn(impl.MaxFlows + 1)
		for i := range gone {
			steps = append(steps, filterStep{goingOut(udpTo(here(7), there(1000+int64(i)))), passed(1, impl.MaxFlows)})
		}
		checkFilter(t, probing(t), append(steps, probes(impl.MaxFlows, order[:gone]...)...)...)
	}
}

// Flows of all protocols are counted together, and ended ones with them; they give way like others.
func TestFilterFlowsOfAllProtocolsGiveWay(t *testing.T) {
	a, b := here(1), there(2)
	steps := []filterStep{
		{goingOut(tcpTo(a, b, syn)), passed(1, 1)}, {goingOut(echoTo(ownAddr, near, 3)), passed(1, 2)},
		{goingOut(tcpTo(here(9), b, syn|rst)), passed(1, 3)},
	}
	for i := range int64(impl.MaxFlows - 3) {
		steps = append(steps, filterStep{goingOut(udpTo(a, there(100+i))), passed(1, 4+i)})
	}
	known := func(p impl.Packet, state int64) filterStep {
		return filterStep{goingIn(p), judged(2, state, 1, impl.MaxFlows)}
	}
	steps = append(steps,
		known(tcpTo(b, a, ack), 2), known(echoReplyTo(near, ownAddr, 3), 2), known(tcpTo(b, here(9), ack), 2),
		filterStep{goingOut(echoTo(ownAddr, near, 4)), passed(1, impl.MaxFlows)},
		known(tcpTo(b, a, ack), 4), known(echoReplyTo(near, ownAddr, 3), 2), known(tcpTo(b, here(9), ack), 2),
		filterStep{goingOut(echoTo(ownAddr, near, 5)), passed(1, impl.MaxFlows)},
		known(echoReplyTo(near, ownAddr, 3), 4), known(tcpTo(b, here(9), ack), 2),
		filterStep{goingOut(tcpTo(here(10), b, syn)), passed(1, impl.MaxFlows)},
		known(tcpTo(b, here(9), ack), 4), known(echoReplyTo(near, ownAddr, 4), 2), known(udpTo(there(100), a), 2),
	)
	checkFilter(t, probing(t), steps...)
}

// spoken is a segment's flags, and whether the side that began the flow sent it.
type spoken struct {
	first bool
	flags byte
}

// RST from either side ends a stream, and FIN from both; no other flag does.
func TestFilterStreamsEnd(t *testing.T) {
	for _, c := range []struct {
		begin byte
		said  []spoken
		ended bool
	}{
		{syn, nil, false}, {syn, []spoken{{false, syn | ack}, {true, ack}}, false},
		{syn, []spoken{{true, rst}}, true}, {syn, []spoken{{false, rst}}, true}, {syn, []spoken{{false, rst | ack}}, true}, {syn | rst, nil, true}, {255 - ack, nil, true},
		{syn, []spoken{{true, fin}}, false}, {syn, []spoken{{false, fin}}, false}, {syn | fin, nil, false}, {255 - ack - rst, nil, false},
		{syn, []spoken{{true, fin}, {true, fin}}, false}, {syn, []spoken{{false, fin}, {false, fin | ack}, {false, fin}}, false},
		{syn, []spoken{{true, fin}, {false, fin}}, true}, {syn, []spoken{{false, fin}, {true, fin}}, true}, {syn, []spoken{{false, fin | ack}, {true, ack}, {false, ack}, {true, fin | ack}}, true},
		{syn | fin, []spoken{{false, fin}}, true}, {syn | fin, []spoken{{true, fin}}, false}, {syn | fin, []spoken{{true, rst}}, true},
		{syn, []spoken{{true, 255 - fin - rst}, {false, 255 - fin - rst}}, false}, {syn, []spoken{{true, 255 - rst}, {false, 255 - rst}}, true},
		// An ended flow is followed on, and stays ended; a SYN begins no other.
		{syn, []spoken{{true, rst}, {true, syn}}, true}, {syn, []spoken{{true, fin}, {false, fin}, {false, syn}, {true, ack}}, true}, {syn, []spoken{{false, rst}, {false, rst}}, true},
	} {
		for _, sides := range [][2]place{{here(1000), there(80)}, {there(80), here(1000)}, {here(1), here(2)}, {here(2), here(1)}, {here(5), there(5)}} {
			checkEnding(t, sides[0], sides[1], c.begin, c.said, c.ended)
		}
		// Where both sides are the same a FIN counts for one, always.
		ended := slices.ContainsFunc(append(c.said, spoken{true, c.begin}), func(s spoken) bool { return s.flags&rst != 0 })
		checkEnding(t, here(5), here(5), c.begin, c.said, ended)
	}
}

func checkEnding(t *testing.T, a, b place, begin byte, said []spoken, ended bool) {
	t.Helper()
	for _, short := range []bool{false, true} {
		segment := func(from, to place, flags byte) impl.Packet {
			p := tcpTo(from, to, flags)
			if short {
				p.Payload = p.Payload[:14]
			}
			return p
		}
		steps := []filterStep{{goingOut(segment(a, b, begin)), passed(1, 1)}}
		for _, s := range said {
			from, to := b, a
			if s.first {
				from, to = a, b
			}
			// Which way a packet goes does not matter, but who sent it.
			op := goingOut(segment(from, to, s.flags))
			if len(steps)%2 == 0 {
				op.Dir = impl.DirIn
			}
			steps = append(steps, filterStep{op, passed(2, 1)})
		}
		stays := int64(tcpStays)
		if ended {
			stays = endedStays
		}
		checkFilter(t, allPass(), append(steps, filterStep{filterWaits(stays - 1), follows(1)}, filterStep{filterWaits(1), follows(0)})...)
	}
}

// Flags count in segments alone, and in those that have them.
func TestFilterFlagsOfNothing(t *testing.T) {
	a, b := here(1000), there(80)
	cut := tcpTo(a, b, rst|fin)
	cut.Payload = append(cut.Payload[:12], rst|fin)
	checkFilter(t, allPass(), filterStep{goingOut(tcpTo(a, b, syn)), passed(1, 1)}, filterStep{goingOut(cut), passed(2, 1)}, filterStep{goingIn(turnedRound(cut)), passed(2, 1)},
		filterStep{filterWaits(tcpStays - 1), follows(1)}, filterStep{filterWaits(1), follows(0)})
	udp := tcpTo(a, b, rst|fin)
	udp.Proto = impl.ProtoUdp
	checkFilter(t, allPass(), filterStep{goingOut(udp), passed(1, 1)}, filterStep{goingIn(turnedRound(udp)), passed(2, 1)},
		filterStep{filterWaits(udpStays - 1), follows(1)}, filterStep{filterWaits(1), follows(0)})
	piece := tcpTo(a, b, rst|fin)
	piece.MF = true
	checkFilter(t, allPass(), filterStep{goingOut(tcpTo(a, b, syn)), passed(1, 1)}, filterStep{goingOut(piece), passed(4, 1)},
		filterStep{filterWaits(tcpStays - 1), follows(1)}, filterStep{filterWaits(1), follows(0)})
}

// A flow is forgotten just when it has not been used for so long, however the time passes; each use puts that off.
func TestFilterForgetsInTime(t *testing.T) {
	a, b := here(1000), there(80)
	for _, c := range []struct {
		p, back impl.Packet
		stays   int64
	}{
		{udpTo(a, b), udpTo(b, a), udpStays}, {echoTo(ownAddr, near, 7), echoReplyTo(near, ownAddr, 7), echoStays},
		{tcpTo(a, b, syn), tcpTo(b, a, ack), tcpStays}, {tcpTo(a, b, syn|rst), tcpTo(b, a, ack), endedStays},
	} {
		begin, use := filterStep{goingOut(c.p), passed(1, 1)}, filterStep{goingIn(c.back), passed(2, 1)}
		stay, gone := filterStep{filterWaits(c.stays - 1), follows(1)}, filterStep{filterWaits(1), follows(0)}
		none := filterStep{filterWaits(0), follows(1)}
		checkFilter(t, allPass(), begin, stay, none, gone, begin, none, stay, gone)
		checkFilter(t, allPass(), begin, filterStep{filterWaits(c.stays), follows(0)})
		checkFilter(t, allPass(), begin, filterStep{filterWaits(impl.MaxTime), follows(0)})
		checkFilter(t, allPass(), begin, stay, use, stay, use, none, stay, gone)
		checkFilter(t, allPass(), filterStep{filterWaits(123456), follows(0)}, begin, stay, gone)
		half := c.stays / 2
		checkFilter(t, allPass(), begin, filterStep{filterWaits(half), follows(1)}, filterStep{filterWaits(c.stays - half - 1), follows(1)}, gone)
		var single []filterStep
		for range 1000 {
			single = append(single, filterStep{filterWaits(c.stays / 2000), follows(1)})
		}
		checkFilter(t, allPass(), append(append([]filterStep{begin}, single...), filterStep{filterWaits(c.stays/2 - 1), follows(1)}, gone)...)
	}
}

// Several are forgotten at once, each by its own time.
func TestFilterForgetsSeveral(t *testing.T) {
	var steps []filterStep
	for i := range int64(10) {
		steps = append(steps, filterStep{goingOut(udpTo(here(7), there(i))), passed(1, i+1)}, filterStep{filterWaits(100), follows(i + 1)})
	}
	steps = append(steps,
		filterStep{goingOut(udpTo(here(7), there(3))), passed(2, 10)},
		filterStep{filterWaits(udpStays - 1001), follows(10)}, filterStep{filterWaits(1), follows(9)},
		filterStep{filterWaits(250), follows(7)}, filterStep{filterWaits(149), follows(7)}, filterStep{filterWaits(1), follows(6)},
		filterStep{filterWaits(500), follows(1)}, filterStep{filterWaits(99), follows(1)}, filterStep{filterWaits(1), follows(0)})
	checkFilter(t, allPass(), steps...)
}

// A wait is not below 0, and does not lead beyond MaxTime.
func TestFilterAsksTheTime(t *testing.T) {
	begin := filterStep{goingOut(tcpTo(here(1), there(2), syn)), passed(1, 1)}
	for _, n := range append(edgeNumbers(), -1, 0, 1, impl.MaxTime-1, impl.MaxTime, impl.MaxTime+1) {
		want := refusesOp(1)
		if n >= 0 && n <= impl.MaxTime {
			want = follows(oneIf(n < tcpStays))
		}
		checkFilter(t, allPass(), begin, filterStep{filterWaits(n), want})
	}
	for _, passed := range []int64{0, 1, 299999, 500000000, impl.MaxTime - 1, impl.MaxTime} {
		left := impl.MaxTime - passed
		flows := oneIf(passed < tcpStays)
		checkFilter(t, allPass(), begin, filterStep{filterWaits(passed), follows(flows)},
			filterStep{filterWaits(left + 1), refusesOp(flows)}, filterStep{filterWaits(math.MaxInt64), refusesOp(flows)}, filterStep{filterWaits(-1), refusesOp(flows)},
			filterStep{filterWaits(left), follows(oneIf(passed+left < tcpStays))}, filterStep{filterWaits(1), refusesOp(0)}, filterStep{filterWaits(0), follows(0)})
	}
}

// A packet is taken in one of two directions, and if EncodeIP takes it.
func TestFilterAsksDirectionAndPacket(t *testing.T) {
	begin := filterStep{goingOut(udpTo(here(1), there(2))), passed(1, 1)}
	for _, dir := range append(edgeNumbers(), 0, 1, 2, 3, 4) {
		op := goingIn(udpTo(here(1), there(2)))
		op.Dir = dir
		want := refusesOp(1)
		if dir == 1 || dir == 2 {
			want = passed(2, 1)
		}
		checkFilter(t, allPass(), begin, filterStep{op, want})
	}
	for _, p := range append(illPackets(), illButForAddresses()...) {
		checkFilter(t, allPass(), begin, filterStep{goingIn(p), refusesOp(1)}, filterStep{goingOut(p), refusesOp(1)})
	}
	for _, p := range edgePackets() {
		out := runFilter(t, allPass(), goingOut(p))[0]
		m := modelFilter{rules: allPass()}
		if want := m.do(goingOut(p)); out != want || out.Verdict != 1 {
			t.Errorf("%s: %v, not %v", shortly(p), out, want)
		}
	}
}

// An operation's kind is one of two; what is not of its kind does not count.
func TestFilterKindsOfOperations(t *testing.T) {
	begin := filterStep{goingOut(udpTo(here(1), there(2))), passed(1, 1)}
	for _, kind := range append(edgeNumbers(), 0, 1, 2, 3, 4) {
		op := impl.FilterOp{Kind: kind, Dir: 1, Wait: udpStays, Packet: udpTo(here(1), there(2))}
		want := refusesOp(1)
		switch kind {
		case impl.FilterTake:
			op.Wait = -1
			want = passed(2, 1)
		case impl.FilterWait:
			op.Dir, op.Packet.ID = 0, -1
			want = follows(0)
		}
		checkFilter(t, allPass(), begin, filterStep{op, want})
	}
}

// A rule that is not valid is told ahead of too many rules, and of too many operations.
func TestRunFilterTellsTheFirstError(t *testing.T) {
	ill := impl.Rule{}
	for _, rules := range []int{0, 1, impl.MaxRules - 1, impl.MaxRules, impl.MaxRules + 1, 5000} {
		for _, ops := range []int{0, 1, impl.MaxOps - 1, impl.MaxOps, impl.MaxOps + 1, 1 << 15} {
			want := int64(impl.OK)
			if rules > impl.MaxRules || ops > impl.MaxOps {
				want = impl.ErrCount
			}
			list := slices.Repeat(allPass(), rules)
			run := slices.Repeat([]impl.FilterOp{filterWaits(0)}, ops)
			check := func(want int64) {
				t.Helper()
				outs, code := impl.RunFilter(list, run)
				if code != want || want == impl.OK && len(outs) != ops || want != impl.OK && len(outs) != 0 {
					t.Errorf("%d rules, %d operations: %d answers, %d, not %d", rules, ops, len(outs), code, want)
				}
			}
			check(want)
			for _, place := range []int{0, rules / 2, rules - 1} {
				if rules > 0 {
					list[place] = ill
					check(impl.ErrForm)
					list[place] = ruleOf(1, 3, 0)
				}
			}
		}
	}
	for _, op := range []impl.FilterOp{{}, filterWaits(-1), goingIn(impl.Packet{ID: -1}), goingOut(udpTo(here(1), there(2)))} {
		outs, code := impl.RunFilter(allPass(), slices.Repeat([]impl.FilterOp{op}, impl.MaxOps+1))
		if code != impl.ErrCount || len(outs) != 0 {
			t.Errorf("too many of %v: %d answers, %d", op, len(outs), code)
		}
	}
}

// filterPacket is a random one between few places, of any state.
func filterPacket(chance *rand.Rand, ports int64) impl.Packet {
	places := []place{here(1000 + chance.Int63n(ports)), here(1000), there(1000 + chance.Int63n(ports)), there(80), there(53)}
	from, to := places[chance.Intn(len(places))], places[chance.Intn(len(places))]
	flags := []byte{syn, syn, syn, syn | ack, ack, ack, fin | ack, rst, byte(chance.Intn(256))}[chance.Intn(9)]
	kinds := []impl.Packet{
		udpTo(from, to), tcpTo(from, to, flags), tcpTo(from, to, flags), echoTo(from.addr, to.addr, from.port), echoReplyTo(from.addr, to.addr, from.port),
		complaintAbout(udpTo(from, to), []int64{3, 11, 3, 11, 5}[chance.Intn(5)], chance.Int63n(14)), complaintAbout(tcpTo(from, to, flags), 3, 1), complaintAbout(echoTo(from.addr, to.addr, 1000), 3, 1),
	}
	p := kinds[chance.Intn(len(kinds))]
	switch chance.Intn(25) {
	case 0:
		p.Payload = p.Payload[:chance.Intn(len(p.Payload)+1)]
	case 1:
		p.MF = true
	case 2:
		p.Offset = 8 * chance.Int63n(100)
	case 3:
		p.Proto = chance.Int63n(20)
	case 4:
		turnBit(p.Payload, chance.Intn(8*len(p.Payload)))
	}
	return p
}

// filterScript is a random one; ports tell how many flows there may be. In some there are short waits alone, so that
// more flows come than there may be.
func filterScript(chance *rand.Rand, ports int64) []impl.FilterOp {
	waits := []int64{0, 1, 1, 50, 1000, 9999, 10000, 15000, 29999, 30000, 299999, 300000, -1, impl.MaxTime}
	var ops []impl.FilterOp
	rest, longest := chance.Intn(25), []int{4, len(waits)}[chance.Intn(2)]
	for range 1 + chance.Intn(400) {
		op := goingOut(filterPacket(chance, ports))
		switch roll := chance.Intn(100); {
		case roll < rest:
			op = filterWaits(waits[chance.Intn(4+chance.Intn(longest-3))])
		case roll == 99:
			op = []impl.FilterOp{{}, {Kind: 3}, {Kind: 1, Dir: 3, Packet: op.Packet}, goingIn(illPackets()[chance.Intn(len(illPackets()))])}[chance.Intn(4)]
		case roll%2 == 0:
			op.Dir = impl.DirIn
		}
		ops = append(ops, op)
	}
	return ops
}

// someRules are now and then such as a filter has that lets in what is known alone.
func someRules(t *testing.T, chance *rand.Rand) []impl.Rule {
	switch chance.Intn(4) {
	case 0:
		return allPass()
	case 1:
		return rulesOf(t, "pass out any from any to any\npass in any from any to any known\npass in icmp from any to any related\nreject in any from any to any")
	}
	return randomRules(chance, chance.Intn(20))
}

func TestFilterAnswersAsTheModel(t *testing.T) {
	chance := newChance()
	seen := map[string]int{}
	for range 2500 {
		rules := someRules(t, chance)
		ops := filterScript(chance, 1+chance.Int63n(200))
		m := modelFilter{rules: rules}
		var before int64
		for i, out := range runFilter(t, rules, ops...) {
			if want := m.do(ops[i]); out != want {
				t.Fatalf("operation %d of %d, %s: %v, not %v", i, len(ops), shortly(ops[i]), out, want)
			}
			switch {
			case ops[i].Kind == impl.FilterWait && out.Flows < before:
				seen["forgotten"]++
			case out.State == impl.StateNew && out.Verdict == 1 && before == impl.MaxFlows:
				seen["given way"]++
			}
			seen[fmt.Sprintf("code %d", out.Code)]++
			seen[fmt.Sprintf("verdict %d, state %d", out.Verdict, out.State)]++
			before = out.Flows
		}
	}
	what := []string{"forgotten", "given way", "code 1"}
	for verdict := 1; verdict <= 3; verdict++ {
		for state := 1; state <= 4; state++ {
			what = append(what, fmt.Sprintf("verdict %d, state %d", verdict, state))
		}
	}
	for _, w := range what {
		if seen[w] < 100 {
			t.Errorf("%s: %d times", w, seen[w])
		}
	}
}

// P16: with these two rules nothing passes in ahead of a packet of its flow that has passed out.
func TestNothingPassesInByItself(t *testing.T) {
	rules := rulesOf(t, "pass out any from any to any\npass in any from any to any known")
	type flowName struct {
		proto  int64
		places [2]place
	}
	chance := newChance()
	inside := 0
	for range 2000 {
		ops := filterScript(chance, 1+chance.Int63n(100))
		gone := map[flowName]bool{}
		for i, out := range runFilter(t, rules, ops...) {
			if out.Verdict != impl.FilterPass {
				continue
			}
			p := ops[i].Packet
			from, to, ends := modelEnds(p)
			if ops[i].Dir == impl.DirOut {
				gone[flowName{p.Proto, [2]place{from, to}}] = true
				continue
			}
			inside++
			if !ends || !gone[flowName{p.Proto, [2]place{from, to}}] && !gone[flowName{p.Proto, [2]place{to, from}}] {
				t.Fatalf("operation %d of %d, %s passes in: %v", i, len(ops), shortly(p), out)
			}
		}
	}
	if inside < 1000 {
		t.Errorf("%d packets pass in only", inside)
	}
}

// P16: whatever comes in at first does not pass, nor does it begin anything.
func TestNothingPassesInAtFirst(t *testing.T) {
	rules := rulesOf(t, "pass out any from any to any\npass in any from any to any known")
	chance := newChance()
	for range 3000 {
		p := filterPacket(chance, 5)
		state := (&modelFilter{}).state(p)
		checkFilter(t, rules, filterStep{goingIn(p), judged(2, state, -1, 0)}, filterStep{goingIn(p), judged(2, state, -1, 0)})
	}
	for flags := range 256 {
		p := tcpTo(there(80), here(1000), byte(flags))
		state := (&modelFilter{}).state(p)
		checkFilter(t, rules, filterStep{goingIn(p), judged(2, state, -1, 0)})
		// Behind a stray packet that went out nothing is followed; behind a new one its flow is.
		checkFilter(t, rules, filterStep{goingOut(tcpTo(here(1000), there(80), ack)), passed(4, 0)}, filterStep{goingIn(p), judged(2, state, -1, 0)},
			filterStep{goingOut(tcpTo(here(1000), there(80), syn)), passed(1, 1)}, filterStep{goingIn(p), judged(1, 2, 1, 1)})
	}
}

// P51: as many rules and operations as there may be end, with great packets, too.
func TestFilterLongRuns(t *testing.T) {
	last := withPorts(ruleOf(1, 3, 17), 0, 65535, 1, 65535)
	rules := append(slices.Repeat([]impl.Rule{withPorts(ruleOf(2, 3, 17), 0, 65535, 0, 0)}, impl.MaxRules-1), last)
	var ops []impl.FilterOp
	great := complaintAbout(udpTo(here(1), there(1)), 3, 3)
	great.Payload = plainIcmp(impl.Icmp{Type: 3, Body: append(plainPacket(udpTo(here(1), there(1))), make([]byte, 64000)...)})
	for i := range int64(impl.MaxOps) {
		p := udpTo(here(1), there(i/2+1))
		if i%2 == 1 {
			p = great
		}
		ops = append(ops, goingOut(p))
	}
	m := modelFilter{rules: rules}
	for i, out := range runFilter(t, rules, ops...) {
		if want := m.do(ops[i]); out != want {
			t.Fatalf("operation %d: %v, not %v", i, out, want)
		}
	}
}

// P51: whatever the numbers of rules and operations are, a run ends, and answers the same again.
func TestFilterAnswersTheSameAgain(t *testing.T) {
	chance := newChance()
	numbers := append(edgeNumbers(), 1, 2, 3, 4, 6, 17)
	pick := func() int64 {
		if chance.Intn(20) > 0 {
			return []int64{0, 1, 2, 6, 17}[chance.Intn(5)]
		}
		return numbers[chance.Intn(len(numbers))]
	}
	told := map[int64]int{}
	for range 2000 {
		var rules []impl.Rule
		for range chance.Intn(3) {
			r := ruleOf(1+chance.Int63n(3), 1+chance.Int63n(3), pick())
			if chance.Intn(4) == 0 {
				r = impl.Rule{Action: pick(), Dir: pick(), Proto: pick(), Src: impl.Prefix{Addr: pick(), Bits: pick()}, SrcLow: pick(), SrcHigh: pick(), DstLow: pick(), DstHigh: pick(), State: pick()}
			}
			rules = append(rules, r)
		}
		var ops []impl.FilterOp
		for range chance.Intn(30) {
			ops = append(ops, impl.FilterOp{Kind: pick(), Dir: pick(), Wait: pick(), Packet: impl.Packet{
				Tos: pick(), ID: pick(), DF: chance.Intn(2) == 1, MF: chance.Intn(9) == 1, Offset: pick() / 2 * 8, TTL: pick(), Proto: pick(),
				Src: pick(), Dst: pick(), Options: randomBytes(chance, chance.Intn(2)*chance.Intn(50)), Payload: randomBytes(chance, 4*chance.Intn(10)),
			}})
		}
		outs, code := impl.RunFilter(rules, ops)
		again, codeAgain := impl.RunFilter(rules, ops)
		if !slices.Equal(outs, again) || code != codeAgain || code == impl.OK && len(outs) != len(ops) {
			t.Fatalf("two answers for %+v, %+v", rules, ops)
		}
		told[code]++
	}
	if told[impl.OK] < 100 || told[impl.ErrForm] < 100 {
		t.Errorf("codes %v", told)
	}
}

// P51: a run changes neither rules nor operations, their spare room included, and two answers share nothing.
func TestRunFilterSharesNothing(t *testing.T) {
	chance := newChance()
	for range 150 {
		roomyRules := randomRules(chance, 20)
		keptRules := slices.Clone(roomyRules)
		rules := roomyRules[3 : 3+chance.Intn(14)]
		script := append(filterScript(chance, 50), filterWaits(5), goingIn(udpTo(here(1), there(2))))
		ops, kept := roomyFilterOps(script), roomyFilterOps(script)
		outs := runFilter(t, rules, ops[:len(ops)-2]...)
		told := slices.Clone(outs)
		again := runFilter(t, rules, ops[:len(ops)-2]...)
		spoil(outs, impl.FilterOut{Code: -1})
		if !slices.Equal(again, told) {
			t.Fatal("another answer the second time")
		}
		if !slices.Equal(roomyRules, keptRules) || !sameFilterOps(ops, kept) {
			t.Fatal("rules or operations have been changed")
		}
	}
}

// roomyFilterOps have their lists in memory with room behind them.
func roomyFilterOps(ops []impl.FilterOp) []impl.FilterOp {
	room := slices.Clone(ops)
	for i := range room {
		room[i].Packet = roomyPacket(room[i].Packet)
	}
	return room
}

func sameFilterOps(a, b []impl.FilterOp) bool {
	return slices.EqualFunc(a, b, func(x, y impl.FilterOp) bool {
		return x.Kind == y.Kind && x.Dir == y.Dir && x.Wait == y.Wait && samePacketWithRoom(x.Packet, y.Packet)
	})
}
