package tests

import (
	"bytes"
	"encoding/binary"
	"encoding/hex"
	"fmt"
	"math"
	"math/rand"
	"regexp"
	"slices"
	"strconv"
	"strings"
	"testing"

	"loop.example/g00003/impl"
)

const (
	shortestSegment = 20
	longestSegment  = 65515
	mostOptions     = 40
	mostShownData   = 4000
)

// sentSegment is a segment on its way.
type sentSegment struct {
	impl.Segment
	way
}

func sameSegment(a, b impl.Segment) bool {
	return a.SrcPort == b.SrcPort && a.DstPort == b.DstPort && a.Seq == b.Seq && a.Ack == b.Ack && a.Flags == b.Flags &&
		a.Window == b.Window && a.Mss == b.Mss && a.HasScale == b.HasScale && a.Scale == b.Scale && a.SackOK == b.SackOK &&
		slices.Equal(a.Sacks, b.Sacks) && bytes.Equal(a.Data, b.Data)
}

func isNoSegment(s impl.Segment) bool { return sameSegment(s, impl.Segment{}) }

func cloneSegment(s impl.Segment) impl.Segment {
	s.Sacks = slices.Clone(s.Sacks)
	s.Data = bytes.Clone(s.Data)
	return s
}

// resumSegment writes the right sum into a segment's bytes.
func resumSegment(b []byte, w way) []byte {
	b[16], b[17] = 0, 0
	binary.BigEndian.PutUint16(b[16:], uint16(plainFalseSum(w, 6, b)))
	return b
}

// plainOptions are a valid segment's options, written apart from the program.
func plainOptions(s impl.Segment) []byte {
	var b []byte
	if s.Mss != 0 {
		b = append(b, 2, 4, byte(s.Mss/256), byte(s.Mss%256))
	}
	if s.HasScale {
		b = append(b, 1, 3, 3, byte(s.Scale))
	}
	if s.SackOK {
		b = append(b, 1, 1, 4, 2)
	}
	if len(s.Sacks) > 0 {
		b = append(b, 1, 1, 5, byte(8*len(s.Sacks)+2))
	}
	for _, stretch := range s.Sacks {
		b = binary.BigEndian.AppendUint32(b, uint32(stretch.From))
		b = binary.BigEndian.AppendUint32(b, uint32(stretch.To))
	}
	return b
}

// segmentWith has the numbers of s, but options and data of its own; options must fill whole words.
func segmentWith(s impl.Segment, w way, options, data []byte) []byte {
	b := binary.BigEndian.AppendUint16(nil, uint16(s.SrcPort))
	b = binary.BigEndian.AppendUint16(b, uint16(s.DstPort))
	b = binary.BigEndian.AppendUint32(b, uint32(s.Seq))
	b = binary.BigEndian.AppendUint32(b, uint32(s.Ack))
	b = append(b, byte((20+len(options))/4*16), byte(s.Flags))
	b = binary.BigEndian.AppendUint16(b, uint16(s.Window))
	b = append(b, 0, 0, 0, 0)
	return resumSegment(slices.Concat(b, options, data), w)
}

// plainSegment is a valid segment's bytes, written apart from the program.
func plainSegment(s impl.Segment, w way) []byte {
	return segmentWith(s, w, plainOptions(s), s.Data)
}

func within(n, most int64) bool { return n >= 0 && n <= most }

// modelValidSegment tells the document's words one behind the other.
func modelValidSegment(s impl.Segment) bool {
	for _, stretch := range s.Sacks {
		if !within(stretch.From, lastAddr) || !within(stretch.To, lastAddr) {
			return false
		}
	}
	return within(s.SrcPort, 65535) && within(s.DstPort, 65535) && within(s.Seq, lastAddr) && within(s.Ack, lastAddr) &&
		within(s.Flags, 63) && within(s.Window, 65535) && within(s.Mss, 65535) && within(s.Scale, 14) &&
		(s.HasScale || s.Scale == 0) && len(s.Sacks) <= 3
}

// modelOptions puts the options into s, and tells whether none is ill.
func modelOptions(b []byte, s *impl.Segment) bool {
	if len(b) == 0 || b[0] == 0 {
		return true
	}
	if b[0] == 1 {
		return modelOptions(b[1:], s)
	}
	if len(b) < 2 || b[1] < 2 || int(b[1]) > len(b) {
		return false
	}
	value := b[2:b[1]]
	lengths := map[byte][]int{2: {2}, 3: {1}, 4: {0}, 5: {8, 16, 24, 32}}
	if right, named := lengths[b[0]]; named && !slices.Contains(right, len(value)) {
		return false
	}
	switch b[0] {
	case 2:
		s.Mss = numberOf(value, 0, 2)
	case 3:
		s.HasScale, s.Scale = true, int64(min(14, value[0]))
	case 4:
		s.SackOK = true
	case 5:
		s.Sacks = nil
		for at := 0; at < len(value) && at < 24; at += 8 {
			s.Sacks = append(s.Sacks, impl.Stretch{From: numberOf(value, at, 4), To: numberOf(value, at+4, 4)})
		}
	}
	return modelOptions(b[b[1]:], s)
}

// modelDecodeSegment tells the document's errors one behind the other.
func modelDecodeSegment(b []byte, w way) (impl.Segment, int64) {
	if !within(w.src, lastAddr) || !within(w.dst, lastAddr) {
		return impl.Segment{}, impl.ErrForm
	}
	if len(b) < shortestSegment {
		return impl.Segment{}, impl.ErrShort
	}
	if len(b) > longestSegment {
		return impl.Segment{}, impl.ErrSize
	}
	head := int(b[12]/16) * 4
	if head < 20 || head > len(b) {
		return impl.Segment{}, impl.ErrLength
	}
	if plainFalseSum(w, 6, b) != 0 {
		return impl.Segment{}, impl.ErrSum
	}
	s := impl.Segment{
		SrcPort: numberOf(b, 0, 2), DstPort: numberOf(b, 2, 2), Seq: numberOf(b, 4, 4), Ack: numberOf(b, 8, 4),
		Flags: int64(b[13] % 64), Window: numberOf(b, 14, 2), Data: bytes.Clone(b[head:]),
	}
	if !modelOptions(b[20:head], &s) {
		return impl.Segment{}, impl.ErrOption
	}
	return s, impl.OK
}

// plainSegmentText is a valid segment's text, written apart from the program.
func plainSegmentText(s impl.Segment) string {
	flags := ""
	for _, f := range []struct {
		bit    int64
		letter string
	}{{2, "S"}, {1, "F"}, {4, "R"}, {8, "P"}, {16, "A"}, {32, "U"}} {
		if s.Flags/f.bit%2 == 1 {
			flags += f.letter
		}
	}
	if flags == "" {
		flags = "-"
	}
	text := fmt.Sprintf("%d>%d %s %d %d %d", s.SrcPort, s.DstPort, flags, s.Seq, s.Ack, s.Window)
	if s.Mss != 0 {
		text += fmt.Sprintf(" mss %d", s.Mss)
	}
	if s.HasScale {
		text += fmt.Sprintf(" scale %d", s.Scale)
	}
	if s.SackOK {
		text += " sackok"
	}
	for _, stretch := range s.Sacks {
		text += fmt.Sprintf(" sack %d-%d", stretch.From, stretch.To)
	}
	if len(s.Data) > 0 {
		text += " data " + hex.EncodeToString(s.Data)
	}
	return text
}

// In these forms N stands for a number without needless noughts.
var (
	segmentForm = formOf(`\A(N)>(N) (-|S?F?R?P?A?U?) (N) (N) (N)(?: mss (N))?(?: scale (N))?( sackok)?((?: sack N-N)*)(?: data ((?:[0-9a-f]{2})+))?\z`)
	sackForm    = formOf(`(N)-(N)`)
)

func formOf(form string) *regexp.Regexp {
	return regexp.MustCompile(strings.ReplaceAll(form, "N", `(?:0|[1-9][0-9]{0,9})`))
}

func numberIn(text string) int64 {
	n, _ := strconv.ParseInt(text, 10, 64)
	return n
}

// modelReadSegment reads a text by its form as a whole.
func modelReadSegment(text string) (impl.Segment, int64) {
	parts := segmentForm.FindStringSubmatch(text)
	if parts == nil || parts[3] == "" || parts[7] == "0" {
		return impl.Segment{}, impl.ErrText
	}
	s := impl.Segment{
		SrcPort: numberIn(parts[1]), DstPort: numberIn(parts[2]), Seq: numberIn(parts[4]), Ack: numberIn(parts[5]),
		Window: numberIn(parts[6]), Mss: numberIn(parts[7]), HasScale: parts[8] != "", Scale: numberIn(parts[8]), SackOK: parts[9] != "",
	}
	for letter, bit := range map[string]int64{"F": 1, "S": 2, "R": 4, "P": 8, "A": 16, "U": 32} {
		if strings.Contains(parts[3], letter) {
			s.Flags += bit
		}
	}
	for _, found := range sackForm.FindAllStringSubmatch(parts[10], -1) {
		s.Sacks = append(s.Sacks, impl.Stretch{From: numberIn(found[1]), To: numberIn(found[2])})
	}
	s.Data, _ = hex.DecodeString(parts[11])
	if !modelValidSegment(s) || len(s.Data) > mostShownData {
		return impl.Segment{}, impl.ErrText
	}
	return s, impl.OK
}

func modelCodeOf(text string) int64 {
	_, code := modelReadSegment(text)
	return code
}

func checkEncodeSegment(t *testing.T, s impl.Segment, w way, want int64) {
	t.Helper()
	b, code := impl.EncodeSegment(s, w.src, w.dst)
	if code != want || want != impl.OK && len(b) != 0 || want == impl.OK && !bytes.Equal(b, plainSegment(s, w)) {
		t.Errorf("EncodeSegment(%s, %v): %d bytes, %.80x, %d, not %d", shortly(s), w, len(b), b, code, want)
	}
}

// checkDecodeSegment asks for the zero segment with every code that refuses, and for the model's segment else.
func checkDecodeSegment(t *testing.T, b []byte, w way, want int64) {
	t.Helper()
	s, code := impl.DecodeSegment(b, w.src, w.dst)
	model, modelCode := modelDecodeSegment(b, w)
	if code != want || code != modelCode || !sameSegment(s, model) {
		t.Errorf("DecodeSegment of %d bytes %.80x, %v: %s, %d, not %s, %d",
			len(b), b, w, shortly(s), code, shortly(model), want)
	}
}

// checkSegmentTold asks that bytes tell just this segment.
func checkSegmentTold(t *testing.T, b []byte, w way, want impl.Segment) {
	t.Helper()
	if got, code := impl.DecodeSegment(b, w.src, w.dst); !sameSegment(got, want) || code != impl.OK {
		t.Errorf("DecodeSegment(%.80x, %v): %s, %d, not %s", b, w, shortly(got), code, shortly(want))
	}
	checkDecodeSegment(t, b, w, impl.OK)
}

func checkShowSegment(t *testing.T, s impl.Segment, want int64) {
	t.Helper()
	text, code := impl.ShowSegment(s)
	if code != want || want != impl.OK && text != "" || want == impl.OK && text != plainSegmentText(s) {
		t.Errorf("ShowSegment(%s): %.200q, %d, not %d", shortly(s), text, code, want)
	}
}

// checkReadSegment asks for the zero segment with ErrText, and for the model's segment else.
func checkReadSegment(t *testing.T, text string, want int64) {
	t.Helper()
	s, code := impl.ReadSegment(text)
	model, modelCode := modelReadSegment(text)
	if code != want || code != modelCode || !sameSegment(s, model) {
		t.Errorf("ReadSegment(%.200q): %s, %d, not %s, %d", text, shortly(s), code, shortly(model), want)
	}
}

// checkTextTold asks that a text tells just this segment.
func checkTextTold(t *testing.T, text string, want impl.Segment) {
	t.Helper()
	if got, code := impl.ReadSegment(text); !sameSegment(got, want) || code != impl.OK {
		t.Errorf("ReadSegment(%.200q): %s, %d, not %s", text, shortly(got), code, shortly(want))
	}
	checkReadSegment(t, text, impl.OK)
}

// checkSegment asks for bytes and a text if a segment is valid, and for neither else.
func checkSegment(t *testing.T, s impl.Segment, valid bool) {
	t.Helper()
	if modelValidSegment(s) != valid {
		t.Fatalf("the model says %v of %s", !valid, shortly(s))
	}
	checkEncodeSegment(t, s, someWay(), codeFor(valid))
	checkShowSegment(t, s, codeFor(valid))
}

// segmentNumber is one of a segment's numbers, and the greatest that it may be.
type segmentNumber struct {
	name string
	most int64
	set  func(s *impl.Segment, n int64)
}

// segmentNumbers are all but the scale, and the ends of as many stretches as there may be.
func segmentNumbers() []segmentNumber {
	list := []segmentNumber{
		{"SrcPort", 65535, func(s *impl.Segment, n int64) { s.SrcPort = n }},
		{"DstPort", 65535, func(s *impl.Segment, n int64) { s.DstPort = n }},
		{"Seq", lastAddr, func(s *impl.Segment, n int64) { s.Seq = n }},
		{"Ack", lastAddr, func(s *impl.Segment, n int64) { s.Ack = n }},
		{"Flags", 63, func(s *impl.Segment, n int64) { s.Flags = n }},
		{"Window", 65535, func(s *impl.Segment, n int64) { s.Window = n }},
		{"Mss", 65535, func(s *impl.Segment, n int64) { s.Mss = n }},
	}
	for i := range 3 {
		list = append(list,
			segmentNumber{fmt.Sprint("From ", i), lastAddr, func(s *impl.Segment, n int64) { s.Sacks[i].From = n }},
			segmentNumber{fmt.Sprint("To ", i), lastAddr, func(s *impl.Segment, n int64) { s.Sacks[i].To = n }})
	}
	return list
}

// fullSegment has all that a segment may have.
func fullSegment() impl.Segment {
	return impl.Segment{
		SrcPort: 1000, DstPort: 80, Seq: 4294967290, Ack: 77, Flags: 27, Window: 4096, Mss: 1460, HasScale: true, Scale: 7, SackOK: true,
		Sacks: []impl.Stretch{{From: 100, To: 200}, {From: 4294967295, To: 3}, {From: 9, To: 8}}, Data: []byte("h\x00\xff"),
	}
}

// optionSegments have each choice of options, with no stretches and up to as many as there may be.
func optionSegments() []impl.Segment {
	var list []impl.Segment
	for choice := range 8 {
		for sacks := range 4 {
			s := fullSegment()
			s.Sacks = s.Sacks[:sacks]
			if choice&1 == 0 {
				s.Mss = 0
			}
			if choice&2 == 0 {
				s.HasScale, s.Scale = false, 0
			}
			s.SackOK = choice&4 != 0
			list = append(list, s)
		}
	}
	return list
}

func randomStretch(chance *rand.Rand) impl.Stretch {
	return impl.Stretch{From: chance.Int63n(lastAddr + 1), To: chance.Int63n(lastAddr + 1)}
}

// randomSegment is valid, with n bytes of data.
func randomSegment(chance *rand.Rand, n int) impl.Segment {
	s := impl.Segment{
		SrcPort: chance.Int63n(65536), DstPort: chance.Int63n(65536), Seq: chance.Int63n(lastAddr + 1), Ack: chance.Int63n(lastAddr + 1),
		Flags: chance.Int63n(64), Window: chance.Int63n(65536), Mss: chance.Int63n(2) * chance.Int63n(65536),
		HasScale: chance.Intn(2) == 1, SackOK: chance.Intn(2) == 1, Data: randomBytes(chance, n),
	}
	if s.HasScale {
		s.Scale = chance.Int63n(15)
	}
	for range chance.Intn(4) {
		s.Sacks = append(s.Sacks, randomStretch(chance))
	}
	return s
}

// edgeSegments are valid: each number at both ends of its range, each choice of options, each sum of flags.
func edgeSegments() []impl.Segment {
	list := append(optionSegments(), impl.Segment{}, fullSegment())
	for _, number := range segmentNumbers() {
		for _, n := range []int64{0, 1, number.most - 1, number.most} {
			s := fullSegment()
			number.set(&s, n)
			list = append(list, s)
		}
	}
	for flags := range int64(64) {
		list = append(list, impl.Segment{Flags: flags}, impl.Segment{Flags: flags, Data: []byte{1}})
	}
	for scale := range int64(15) {
		list = append(list, impl.Segment{HasScale: true, Scale: scale})
	}
	return list
}

// someSegments are valid, and are shown as a text, too.
func someSegments() []sentSegment {
	chance := newChance()
	var list []sentSegment
	for _, s := range edgeSegments() {
		for _, w := range someWays() {
			list = append(list, sentSegment{s, w})
		}
	}
	for n := range 300 {
		list = append(list, sentSegment{randomSegment(chance, n), randomWay(chance)})
	}
	for _, n := range []int{1460, mostShownData - 1, mostShownData} {
		list = append(list, sentSegment{randomSegment(chance, n), randomWay(chance)})
	}
	return list
}

// filledTo is s with as many bytes of data as make all of it so many.
func filledTo(s impl.Segment, whole int) impl.Segment {
	s.Data = randomBytes(newChance(), whole-shortestSegment-len(plainOptions(s)))
	return s
}

func TestSegmentBytes(t *testing.T) {
	w := way{0x01020304, 0x05060708}
	s := impl.Segment{
		SrcPort: 0x0102, DstPort: 0x0304, Seq: 0x05060708, Ack: 0x090A0B0C, Flags: 18, Window: 0x0D0E, Mss: 0x0F10,
		HasScale: true, Scale: 9, SackOK: true, Sacks: []impl.Stretch{{From: 0x11121314, To: 0x15161718}}, Data: []byte{0x19},
	}
	// The false head is 1047, the head E14A, options and data 8982: 7B14 with the bits not turned yet.
	want := []byte{
		1, 2, 3, 4, 5, 6, 7, 8, 9, 10, 11, 12, 0xB0, 18, 13, 14, 0x84, 0xEB, 0, 0,
		2, 4, 15, 16, 1, 3, 3, 9, 1, 1, 4, 2, 1, 1, 5, 10, 0x11, 0x12, 0x13, 0x14, 0x15, 0x16, 0x17, 0x18, 0x19,
	}
	if b, code := impl.EncodeSegment(s, w.src, w.dst); !bytes.Equal(b, want) || code != impl.OK {
		t.Errorf("EncodeSegment(%v): %x, %d, not %x", s, b, code, want)
	}
	checkSegmentTold(t, want, w, s)
	for _, s := range someSegments() {
		checkEncodeSegment(t, s.Segment, s.way, impl.OK)
	}
}

// P6: valid segments come back from their bytes.
func TestSegmentsComeBack(t *testing.T) {
	for _, s := range someSegments() {
		b, code := impl.EncodeSegment(s.Segment, s.src, s.dst)
		if code != impl.OK || len(b) != shortestSegment+len(plainOptions(s.Segment))+len(s.Data) {
			t.Fatalf("EncodeSegment(%s): %.80x, %d", shortly(s), b, code)
		}
		checkSegmentTold(t, b, s.way, s.Segment)
	}
}

// P6: so do the longest, whatever options they have.
func TestLongestSegmentsComeBack(t *testing.T) {
	for _, s := range optionSegments() {
		for _, n := range []int{longestSegment - 1, longestSegment} {
			long := filledTo(s, n)
			b, code := impl.EncodeSegment(long, ownAddr, near)
			if code != impl.OK || len(b) != n {
				t.Fatalf("EncodeSegment(%s): %d bytes, %d", shortly(long), len(b), code)
			}
			checkSegmentTold(t, b, someWay(), long)
		}
	}
}

func TestSegmentAsksItsNumbers(t *testing.T) {
	for _, number := range segmentNumbers() {
		for _, n := range append(edgeNumbers(), 1, 62, 63, 64, 65, 127, 128, 65534, number.most-1, number.most, number.most+1) {
			s := fullSegment()
			number.set(&s, n)
			checkSegment(t, s, within(n, number.most))
			s = impl.Segment{Sacks: make([]impl.Stretch, 3)}
			number.set(&s, n)
			checkSegment(t, s, within(n, number.most))
		}
	}
}

// Without HasScale a scale may be nothing but 0.
func TestSegmentAsksItsScale(t *testing.T) {
	for _, n := range append(edgeNumbers(), 1, 2, 7, 13, 14, 15, 16, 127, 128) {
		for _, s := range optionSegments() {
			s.HasScale, s.Scale = true, n
			checkSegment(t, s, within(n, 14))
			s.HasScale = false
			checkSegment(t, s, n == 0)
		}
	}
}

func TestSegmentBoundsItsStretches(t *testing.T) {
	for _, n := range []int{0, 1, 2, 3, 4, 5, 31, 32, 100000} {
		checkSegment(t, impl.Segment{Sacks: make([]impl.Stretch, n)}, n <= 3)
		s := fullSegment()
		s.Sacks = slices.Repeat([]impl.Stretch{{From: lastAddr, To: 0}}, n)
		checkSegment(t, s, n <= 3)
	}
	for _, ill := range []impl.Stretch{{From: -1}, {To: -1}, {From: lastAddr + 1}, {To: lastAddr + 1}, {From: math.MinInt64, To: math.MaxInt64}} {
		for n := 1; n <= 5; n++ {
			for place := range n {
				s := impl.Segment{Sacks: make([]impl.Stretch, n)}
				s.Sacks[place] = ill
				checkSegment(t, s, false)
			}
		}
	}
}

func TestEncodeSegmentAsksItsAddresses(t *testing.T) {
	for _, n := range append(edgeNumbers(), addrsOfEachKind()...) {
		want := codeFor(within(n, lastAddr))
		for _, s := range []impl.Segment{{}, fullSegment()} {
			for _, other := range []int64{0, near, lastAddr} {
				checkEncodeSegment(t, s, way{n, other}, want)
				checkEncodeSegment(t, s, way{other, n}, want)
			}
			checkEncodeSegment(t, s, way{n, n}, want)
		}
	}
}

// All of it counts, head, options and data; what is not valid is told ahead of too many bytes.
func TestEncodeSegmentBoundsAllOfIt(t *testing.T) {
	for _, s := range optionSegments() {
		for _, n := range []int{longestSegment - 1, longestSegment, longestSegment + 1, longestSegment + 2, 65535, 65536, 65556, 1 << 17} {
			want := int64(impl.OK)
			if n > longestSegment {
				want = impl.ErrSize
			}
			long := filledTo(s, n)
			checkEncodeSegment(t, long, someWay(), want)
			checkEncodeSegment(t, long, way{}, want)
			checkEncodeSegment(t, long, way{lastAddr, lastAddr}, want)
			checkEncodeSegment(t, long, way{-1, near}, impl.ErrForm)
			checkEncodeSegment(t, long, way{near, lastAddr + 1}, impl.ErrForm)
			long.Flags = 64
			checkEncodeSegment(t, long, someWay(), impl.ErrForm)
			checkShowSegment(t, long, impl.ErrForm)
		}
	}
	long := impl.Segment{Data: make([]byte, 1<<20)}
	for _, w := range illWays() {
		checkEncodeSegment(t, long, w, impl.ErrForm)
		checkEncodeSegment(t, impl.Segment{SrcPort: -1}, w, impl.ErrForm)
		checkEncodeSegment(t, impl.Segment{}, w, impl.ErrForm)
	}
	for _, number := range segmentNumbers() {
		long := impl.Segment{Sacks: make([]impl.Stretch, 3), Data: make([]byte, longestSegment)}
		number.set(&long, number.most+1)
		checkEncodeSegment(t, long, someWay(), impl.ErrForm)
		number.set(&long, number.most)
		checkEncodeSegment(t, long, someWay(), impl.ErrSize)
	}
}

// withSegmentSum is a segment by whose window its sum is the one asked for; it must not be 65535.
func withSegmentSum(s impl.Segment, w way, sum int64) impl.Segment {
	s.Window = 0
	s.Window = (numberOf(plainSegment(s, w), 16, 2) - sum + 65535) % 65535
	return s
}

// A sum that is 0 is written as 0: a segment is never without one. In its place 65535 counts the same.
func TestNoughtSumOfASegment(t *testing.T) {
	for _, w := range someWays() {
		for _, s := range optionSegments() {
			for _, sum := range []int64{0, 1, 2, 256, 32768, 65534} {
				s := withSegmentSum(s, w, sum)
				b, code := impl.EncodeSegment(s, w.src, w.dst)
				if code != impl.OK || numberOf(b, 16, 2) != sum {
					t.Fatalf("EncodeSegment(%v, %v): %x, %d, not with the sum %d", s, w, b, code, sum)
				}
				checkSegmentTold(t, b, w, s)
				if sum == 0 {
					b[16], b[17] = 255, 255
					checkSegmentTold(t, b, w, s)
					continue
				}
				b[16], b[17] = 0, 0
				checkDecodeSegment(t, b, w, impl.ErrSum)
			}
		}
	}
}

// Addresses are asked for ahead of all else.
func TestDecodeSegmentAsksItsAddresses(t *testing.T) {
	right := plainSegment(fullSegment(), someWay())
	for _, w := range illWays() {
		checkDecodeSegment(t, nil, w, impl.ErrForm)
		for n := range len(right) + 1 {
			checkDecodeSegment(t, right[:n], w, impl.ErrForm)
			checkDecodeSegment(t, make([]byte, n), w, impl.ErrForm)
		}
		checkDecodeSegment(t, make([]byte, longestSegment+1), w, impl.ErrForm)
	}
	for _, n := range append(edgeNumbers(), addrsOfEachKind()...) {
		want := codeFor(within(n, lastAddr))
		for _, other := range []int64{0, near, lastAddr} {
			checkDecodeSegment(t, plainSegment(fullSegment(), way{n, other}), way{n, other}, want)
			checkDecodeSegment(t, plainSegment(impl.Segment{}, way{other, n}), way{other, n}, want)
		}
	}
}

// Fewer bytes than a head are too few, whatever they say.
func TestDecodeSegmentAsksForTwentyBytes(t *testing.T) {
	right := plainSegment(impl.Segment{SrcPort: 5, DstPort: 6}, someWay())
	checkDecodeSegment(t, nil, someWay(), impl.ErrShort)
	for n := range shortestSegment {
		checkDecodeSegment(t, right[:n], someWay(), impl.ErrShort)
		checkDecodeSegment(t, make([]byte, n), someWay(), impl.ErrShort)
		checkDecodeSegment(t, bytes.Repeat([]byte{255}, n), someWay(), impl.ErrShort)
		if n >= 18 {
			checkDecodeSegment(t, resumSegment(bytes.Clone(right[:n]), someWay()), someWay(), impl.ErrShort)
		}
	}
	checkSegmentTold(t, right, someWay(), impl.Segment{SrcPort: 5, DstPort: 6})
}

// Too many bytes are told ahead of an ill head, a wrong sum and ill options.
func TestDecodeSegmentBoundsItsBytes(t *testing.T) {
	for _, n := range []int{longestSegment - 1, longestSegment, longestSegment + 1, longestSegment + 2, 65535, 65536, 1 << 17} {
		want, head, sum, option := int64(impl.OK), int64(impl.ErrLength), int64(impl.ErrSum), int64(impl.ErrOption)
		if n > longestSegment {
			want, head, sum, option = impl.ErrSize, impl.ErrSize, impl.ErrSize, impl.ErrSize
		}
		b := plainSegment(filledTo(fullSegment(), n), someWay())
		checkDecodeSegment(t, b, someWay(), want)
		b[n-1] ^= 128
		checkDecodeSegment(t, b, someWay(), sum)
		b[21] = 3
		checkDecodeSegment(t, resumSegment(b, someWay()), someWay(), option)
		b[12] = 0x40
		checkDecodeSegment(t, resumSegment(b, someWay()), someWay(), head)
	}
}

// A head is at least 20 bytes and at most all of them; that is told ahead of the sum.
func TestDecodeSegmentAsksTheHead(t *testing.T) {
	for n := shortestSegment; n <= shortestSegment+mostOptions+5; n++ {
		for first := range 256 {
			b := make([]byte, n)
			b[12] = byte(first)
			want, wrong := int64(impl.OK), int64(impl.ErrSum)
			if head := first / 16 * 4; head < 20 || head > n {
				want, wrong = impl.ErrLength, impl.ErrLength
			}
			checkDecodeSegment(t, resumSegment(b, someWay()), someWay(), want)
			b[0] ^= 64
			checkDecodeSegment(t, b, someWay(), wrong)
		}
	}
}

// What the head does not reach is data, options or not.
func TestDataBeginBehindTheHead(t *testing.T) {
	rest := []byte{2, 4, 0, 9, 3, 3, 5, 0, 4, 2, 9, 0}
	for words := range 4 {
		b := segmentWith(impl.Segment{}, someWay(), rest[:4*words], rest[4*words:])
		got, code := impl.DecodeSegment(b, ownAddr, near)
		if code != impl.OK || !bytes.Equal(got.Data, rest[4*words:]) || (got.Mss == 9) != (words >= 1) || got.HasScale != (words >= 2) {
			t.Errorf("DecodeSegment(%x): %v, %d", b, got, code)
		}
		checkDecodeSegment(t, b, someWay(), code)
	}
}

// Of all sums one is right, but for 0 and 65535, which count as one.
func TestDecodeSegmentAsksTheSum(t *testing.T) {
	for _, s := range []impl.Segment{
		{}, fullSegment(), withSegmentSum(fullSegment(), someWay(), 0), withSegmentSum(impl.Segment{}, someWay(), 1), randomSegment(newChance(), 33),
	} {
		b := plainSegment(s, someWay())
		right := binary.BigEndian.Uint16(b[16:])
		for sum := range 65536 {
			want := int64(impl.ErrSum)
			if sum == int(right) || right == 0 && sum == 65535 {
				want = impl.OK
			}
			binary.BigEndian.PutUint16(b[16:], uint16(sum))
			checkDecodeSegment(t, b, someWay(), want)
		}
	}
}

// The sum is bound to the addresses and to the protocol.
func TestSegmentForAnother(t *testing.T) {
	chance := newChance()
	for _, n := range []int{0, 1, 2, 50} {
		for _, w := range append(someWays(), randomWay(chance)) {
			b := plainSegment(randomSegment(chance, n), w)
			checkDecodeSegment(t, b, way{w.dst, w.src}, impl.OK)
			for bit := range 32 {
				checkDecodeSegment(t, b, way{w.src ^ 1<<bit, w.dst}, impl.ErrSum)
				checkDecodeSegment(t, b, way{w.src, w.dst ^ 1<<bit}, impl.ErrSum)
			}
		}
	}
	for proto := range 256 {
		b := plainSegment(fullSegment(), someWay())
		b[16], b[17] = 0, 0
		binary.BigEndian.PutUint16(b[16:], uint16(plainFalseSum(someWay(), byte(proto), b)))
		want := int64(impl.ErrSum)
		if proto == impl.ProtoTcp {
			want = impl.OK
		}
		checkDecodeSegment(t, b, someWay(), want)
	}
}

// Neither the bits beside the head's length, nor those above the flags, nor the two bytes behind the sum count.
func TestBitsThatCountForNothing(t *testing.T) {
	for _, s := range []impl.Segment{{}, fullSegment(), {Flags: 63}, {Flags: 1, Data: []byte{9}}} {
		right := plainSegment(s, someWay())
		for x := range 256 {
			for _, spoil := range []func(b []byte){
				func(b []byte) { b[12] |= byte(x % 16) },
				func(b []byte) { b[13] |= byte(x) << 6 },
				func(b []byte) { b[18] = byte(x) },
				func(b []byte) { b[19] = byte(x) },
				func(b []byte) { b[12], b[13], b[18], b[19] = b[12]|15, b[13]|192, byte(x), byte(255-x) },
			} {
				b := bytes.Clone(right)
				spoil(b)
				checkSegmentTold(t, resumSegment(b, someWay()), someWay(), s)
			}
		}
	}
}

// endingWith are options of whole words, the last of which ends with the head: bytes 1 stand ahead.
func endingWith(option ...byte) []byte {
	return append(bytes.Repeat([]byte{1}, (4-len(option)%4)%4), option...)
}

// beginningWith are options of whole words, behind the last of which stands an end of options if there is room.
func beginningWith(option ...byte) []byte {
	return append(bytes.Clone(option), make([]byte, (4-len(option)%4)%4)...)
}

// checkOptions asks for what options tell, whatever else the segment has.
func checkOptions(t *testing.T, options []byte, want impl.Segment) {
	t.Helper()
	for _, s := range []impl.Segment{{}, {SrcPort: 65535, DstPort: 65535, Seq: lastAddr, Ack: lastAddr, Flags: 63, Window: 65535, Data: []byte{2, 2, 5, 0, 9}}} {
		b := segmentWith(s, someWay(), options, s.Data)
		s.Mss, s.HasScale, s.Scale, s.SackOK, s.Sacks = want.Mss, want.HasScale, want.Scale, want.SackOK, want.Sacks
		checkSegmentTold(t, b, someWay(), s)
	}
}

// checkIllOptions asks for ErrOption, and for a wrong sum ahead of it.
func checkIllOptions(t *testing.T, options []byte) {
	t.Helper()
	for _, data := range [][]byte{nil, {1}, {4, 2, 1, 1, 0, 0, 0, 0, 0, 0}} {
		b := segmentWith(impl.Segment{Window: 7}, someWay(), options, data)
		checkDecodeSegment(t, b, someWay(), impl.ErrOption)
		b[15] ^= 1
		checkDecodeSegment(t, b, someWay(), impl.ErrSum)
	}
}

// checkAround asks for what an option tells at the beginning of the options, in the midst, and at the end.
func checkAround(t *testing.T, want impl.Segment, option ...byte) {
	t.Helper()
	checkOptions(t, beginningWith(option...), want)
	checkOptions(t, endingWith(option...), want)
	if len(option) <= mostOptions-8 {
		checkOptions(t, beginningWith(slices.Concat([]byte{1, 1, 1}, option, []byte{1, 1})...), want)
	}
}

func ends(from, to int64) []byte {
	return binary.BigEndian.AppendUint32(binary.BigEndian.AppendUint32(nil, uint32(from)), uint32(to))
}

func TestOptionsAreRead(t *testing.T) {
	checkOptions(t, nil, impl.Segment{})
	for _, mss := range []int64{0, 1, 255, 256, 536, 1460, 65534, 65535} {
		checkAround(t, impl.Segment{Mss: mss}, 2, 4, byte(mss>>8), byte(mss))
	}
	for scale := range 256 {
		checkAround(t, impl.Segment{HasScale: true, Scale: int64(min(scale, 14))}, 3, 3, byte(scale))
	}
	checkAround(t, impl.Segment{SackOK: true}, 4, 2)
	for _, n := range []int64{0, 1, 4294967294, 4294967295} {
		checkAround(t, impl.Segment{Sacks: []impl.Stretch{{From: n, To: 7}}}, append([]byte{5, 10}, ends(n, 7)...)...)
		checkAround(t, impl.Segment{Sacks: []impl.Stretch{{From: 7, To: n}}}, append([]byte{5, 10}, ends(7, n)...)...)
	}
	checkOptions(t, []byte{4, 2, 3, 3, 5, 2, 4, 1, 2, 5, 10, 0, 0, 0, 1, 0, 0, 0, 2, 0},
		impl.Segment{Mss: 258, HasScale: true, Scale: 5, SackOK: true, Sacks: []impl.Stretch{{From: 1, To: 2}}})
}

// Of one to four stretches the first three are kept.
func TestStretchesThatAreKept(t *testing.T) {
	for n := 1; n <= 4; n++ {
		option := []byte{5, byte(8*n + 2)}
		var all []impl.Stretch
		for i := range int64(n) {
			all = append(all, impl.Stretch{From: 1000*i + 1, To: lastAddr - i})
			option = append(option, ends(1000*i+1, lastAddr-i)...)
		}
		checkAround(t, impl.Segment{Sacks: all[:min(n, 3)]}, option...)
	}
}

// A byte 0 ends the options, whatever stands behind it.
func TestEndOfOptions(t *testing.T) {
	for _, behind := range [][]byte{{2, 4, 1}, {9, 9, 9}, {4, 3, 0}, {3, 0, 0}, {5, 255, 255}, {0, 0, 2}, {1, 1, 2}, {255, 255, 255}, {4, 2, 0}, {3, 3, 7}} {
		checkOptions(t, append([]byte{0}, behind...), impl.Segment{})
		checkOptions(t, append([]byte{1, 1, 1, 1, 1, 1, 1, 0, 0}, behind...), impl.Segment{})
		checkOptions(t, slices.Concat([]byte{2, 4, 0, 9, 0}, behind), impl.Segment{Mss: 9})
		checkOptions(t, slices.Concat([]byte{2, 4, 0, 9, 3, 3, 2, 4, 2, 9, 3, 0, 0}, behind, make([]byte, 24)),
			impl.Segment{Mss: 9, HasScale: true, Scale: 2, SackOK: true})
	}
	for n := range mostOptions {
		options := bytes.Repeat([]byte{1}, mostOptions)
		options[n] = 0
		for i := n + 1; i < mostOptions; i++ {
			options[i] = 2
		}
		checkOptions(t, options, impl.Segment{})
	}
}

// A byte 1 stands alone, as often as it comes.
func TestPadsAmongOptions(t *testing.T) {
	for words := range 11 {
		checkOptions(t, bytes.Repeat([]byte{1}, 4*words), impl.Segment{})
	}
	for ahead := range mostOptions - 3 {
		options := bytes.Repeat([]byte{1}, mostOptions)
		copy(options[ahead:], []byte{2, 4, 1, 1})
		checkOptions(t, options, impl.Segment{Mss: 257})
	}
}

// A kind at the head's end lacks its length, and a length leads nowhere beyond the head, though data stand there.
func TestOptionsThatAreCut(t *testing.T) {
	for kind := 2; kind < 256; kind++ {
		for words := 1; words <= 10; words++ {
			checkIllOptions(t, append(bytes.Repeat([]byte{1}, 4*words-1), byte(kind)))
		}
	}
	for _, whole := range [][]byte{{2, 4, 5, 180}, {3, 3, 7}, {4, 2}, append([]byte{5, 10}, ends(1, 2)...), append([]byte{5, 34}, make([]byte, 32)...), {9, 7, 0, 0, 0, 0, 0}} {
		for n := 1; n < len(whole); n++ {
			checkIllOptions(t, endingWith(whole[:n]...))
		}
	}
}

// Each kind has lengths of its own; a kind that is not known may have any that the head has room for.
func TestLengthsOfOptions(t *testing.T) {
	right := map[int][]int{2: {4}, 3: {3}, 4: {2}, 5: {10, 18, 26, 34}}
	for kind := 2; kind < 256; kind++ {
		for length := range 256 {
			for _, room := range []int{4, 20, 36, mostOptions} {
				options := make([]byte, room)
				options[0], options[1] = byte(kind), byte(length)
				lengths, known := right[kind]
				if length >= 2 && length <= room && (!known || slices.Contains(lengths, length)) {
					want, _ := modelDecodeSegment(segmentWith(impl.Segment{}, someWay(), options, nil), someWay())
					checkOptions(t, options, want)
				} else {
					checkIllOptions(t, options)
				}
			}
		}
	}
}

// Kinds that are not known tell nothing, and are gone over whole, whatever stands in them.
func TestUnknownOptions(t *testing.T) {
	for _, kind := range []byte{6, 7, 8, 9, 34, 127, 128, 253, 254, 255} {
		for length := 2; length <= mostOptions-4; length++ {
			option := append([]byte{kind, byte(length)}, bytes.Repeat([]byte{4, 0, 1, 255}, 10)[:length-2]...)
			checkAround(t, impl.Segment{}, option...)
			checkOptions(t, beginningWith(append(option, 2, 4, 0, 5)...), impl.Segment{Mss: 5})
			checkOptions(t, endingWith(append([]byte{2, 4, 0, 5}, option...)...), impl.Segment{Mss: 5})
		}
		checkOptions(t, append([]byte{kind, mostOptions}, bytes.Repeat([]byte{2}, mostOptions-2)...), impl.Segment{})
	}
}

// Of a kind that comes twice the last one counts, all of it.
func TestOptionsThatComeTwice(t *testing.T) {
	checkOptions(t, []byte{2, 4, 1, 1, 2, 4, 2, 2}, impl.Segment{Mss: 514})
	checkOptions(t, []byte{2, 4, 1, 1, 2, 4, 0, 0}, impl.Segment{})
	checkOptions(t, []byte{2, 4, 0, 3, 3, 3, 1, 2, 4, 0, 7, 3, 3, 9, 0, 0}, impl.Segment{Mss: 7, HasScale: true, Scale: 9})
	checkOptions(t, []byte{3, 3, 14, 3, 3, 0, 1, 1}, impl.Segment{HasScale: true})
	checkOptions(t, []byte{3, 3, 0, 3, 3, 200, 1, 1}, impl.Segment{HasScale: true, Scale: 14})
	checkOptions(t, []byte{4, 2, 4, 2}, impl.Segment{SackOK: true})
	two := append(append([]byte{5, 18}, ends(1, 2)...), ends(3, 4)...)
	one := append([]byte{5, 10}, ends(5, 6)...)
	checkOptions(t, beginningWith(slices.Concat(two, one)...), impl.Segment{Sacks: []impl.Stretch{{From: 5, To: 6}}})
	checkOptions(t, beginningWith(slices.Concat(one, two)...), impl.Segment{Sacks: []impl.Stretch{{From: 1, To: 2}, {From: 3, To: 4}}})
	checkOptions(t, beginningWith(slices.Concat(one, one, one)...), impl.Segment{Sacks: []impl.Stretch{{From: 5, To: 6}}})
	checkIllOptions(t, []byte{2, 4, 1, 1, 2, 3, 2, 1})
	checkIllOptions(t, []byte{4, 2, 4, 3})
	checkIllOptions(t, beginningWith(append(two, 5, 12)...))
}

// What is ill is so ahead of other options and behind them, but not behind their end.
func TestIllOptionsAmongOthers(t *testing.T) {
	for _, ill := range [][]byte{{2, 3, 1}, {2, 0}, {3, 2}, {3, 4, 1, 1}, {4, 3, 1}, {4, 1}, {5, 2}, {5, 9}, {5, 11}, {5, 42}, {9, 0}, {9, 1}, {9, 255}, {255, 41}} {
		checkIllOptions(t, beginningWith(ill...))
		checkIllOptions(t, beginningWith(append([]byte{2, 4, 1, 1, 1, 1}, ill...)...))
		checkIllOptions(t, append(beginningWith(ill...), 2, 4, 1, 1))
		checkOptions(t, beginningWith(append([]byte{2, 4, 1, 1, 0}, ill...)...), impl.Segment{Mss: 257})
	}
}

// Of every choice of faults the first is told.
func TestDecodeSegmentTellsTheFirstError(t *testing.T) {
	faults := []byteFault{
		{func(b []byte) { b[12] = 0x40 }, impl.ErrLength},
		{func(b []byte) { b[3] ^= 1 }, impl.ErrSum},
		{func(b []byte) { b[21] = 5 }, impl.ErrOption},
		{func(b []byte) { b[25] = 41 }, impl.ErrOption},
	}
	for choice := range 1 << len(faults) {
		for _, size := range []int{30, longestSegment, longestSegment + 1} {
			b := segmentWith(impl.Segment{}, someWay(), []byte{2, 4, 5, 6, 9, 4, 1, 1}, make([]byte, size-28))
			want := makeFaults(b, faults, choice, func() { resumSegment(b, someWay()) })
			if size > longestSegment {
				want = impl.ErrSize
			}
			checkDecodeSegment(t, b, someWay(), want)
			checkDecodeSegment(t, b[:19], someWay(), impl.ErrShort)
			checkDecodeSegment(t, b, way{-1, near}, impl.ErrForm)
		}
	}
}

// likelyOptions are of whole words, and most of them right.
func likelyOptions(chance *rand.Rand) []byte {
	var options []byte
	for range chance.Intn(6) {
		option := [][]byte{
			{0}, {1}, {1, 1}, append([]byte{2, 4}, randomBytes(chance, 2)...), append([]byte{3, 3}, randomBytes(chance, 1)...), {4, 2},
			append([]byte{5, 10}, randomBytes(chance, 8)...), append([]byte{5, 18}, randomBytes(chance, 16)...),
			append([]byte{5, 26}, randomBytes(chance, 24)...), append([]byte{5, 34}, randomBytes(chance, 32)...),
			{2, 4, 0, 0}, {byte(6 + chance.Intn(250)), 3, 7}, {byte(chance.Intn(8)), byte(chance.Intn(12))},
		}[chance.Intn(13)]
		if len(options)+len(option) <= mostOptions {
			options = append(options, option...)
		}
	}
	if chance.Intn(2) == 1 {
		return endingWith(options...)
	}
	return beginningWith(options...)
}

// likelySegment are bytes most of which are taken.
func likelySegment(chance *rand.Rand, w way) []byte {
	b := segmentWith(randomSegment(chance, 0), w, likelyOptions(chance), randomBytes(chance, chance.Intn(20)))
	switch chance.Intn(12) {
	case 0:
		b[12] = byte(chance.Intn(256))
		resumSegment(b, w)
	case 1:
		turnBit(b, chance.Intn(8*len(b)))
	case 2:
		b = b[:chance.Intn(len(b))]
	case 3, 4, 5, 6:
		b[12], b[13], b[18], b[19] = b[12]|byte(chance.Intn(16)), byte(chance.Intn(256)), byte(chance.Intn(256)), byte(chance.Intn(256))
		resumSegment(b, w)
	}
	return b
}

// checkOwnBytes asks that a segment that was told has bytes of its own, which tell it again.
func checkOwnBytes(t *testing.T, s impl.Segment, w way) {
	t.Helper()
	own, code := impl.EncodeSegment(s, w.src, w.dst)
	if code != impl.OK {
		t.Fatalf("EncodeSegment(%s): %d", shortly(s), code)
	}
	checkSegmentTold(t, own, w, s)
}

// P7: bytes that DecodeSegment takes tell a segment whose own bytes are taken as the same.
func TestTakenBytesTellASegment(t *testing.T) {
	chance := newChance()
	told := map[int64]int{}
	for range 40000 {
		w := randomWay(chance)
		b := likelySegment(chance, w)
		if chance.Intn(20) == 0 {
			w = illWays()[chance.Intn(len(illWays()))]
		}
		s, code := impl.DecodeSegment(b, w.src, w.dst)
		told[code]++
		checkDecodeSegment(t, b, w, code)
		if code == impl.OK {
			checkOwnBytes(t, s, w)
		}
	}
	for _, code := range []int64{impl.OK, impl.ErrForm, impl.ErrShort, impl.ErrLength, impl.ErrSum, impl.ErrOption} {
		if told[code] < 100 {
			t.Errorf("code %d comes %d times", code, told[code])
		}
	}
}

// P7: bytes that are not a segment's own are taken so, too: with bits that do not count, other options, the greatest of all.
func TestTakenBytesThatAreNotASegmentsOwn(t *testing.T) {
	for _, options := range [][]byte{
		nil, {0, 0, 0, 0}, {1, 1, 1, 1}, {2, 4, 0, 0}, {3, 3, 255, 0}, {0, 9, 9, 9}, {77, 4, 1, 2}, bytes.Repeat([]byte{1}, mostOptions),
		beginningWith(append([]byte{5, 34}, bytes.Repeat([]byte{255}, 32)...)...), {2, 4, 9, 9, 2, 4, 0, 0}, {4, 2, 3, 3, 15, 2, 4, 255, 255, 4, 2, 0},
	} {
		for _, n := range []int{0, 1, longestSegment - shortestSegment - mostOptions, longestSegment - shortestSegment - len(options)} {
			b := segmentWith(impl.Segment{Flags: 255, Window: 65535}, someWay(), options, randomBytes(newChance(), n))
			b[12], b[18], b[19] = b[12]|15, 255, 255
			s, code := impl.DecodeSegment(resumSegment(b, someWay()), ownAddr, near)
			if code != impl.OK {
				t.Fatalf("DecodeSegment(%.80x): %d", b, code)
			}
			checkOwnBytes(t, s, someWay())
		}
	}
}

// Options that stand closer than EncodeSegment writes them leave room for data that have none beside its own.
func TestOptionsThatStandCloser(t *testing.T) {
	closer := append([]byte{4, 2, 5, 10}, ends(1, 2)...)
	for n := longestSegment - 8; n <= longestSegment; n++ {
		b := segmentWith(impl.Segment{}, someWay(), closer, make([]byte, n-shortestSegment-len(closer)))
		s, code := impl.DecodeSegment(b, ownAddr, near)
		if code != impl.OK || !s.SackOK || len(s.Sacks) != 1 {
			t.Fatalf("DecodeSegment of %d bytes: %s, %d", n, shortly(s), code)
		}
		if n+4 <= longestSegment {
			checkOwnBytes(t, s, someWay())
		} else {
			checkEncodeSegment(t, s, someWay(), impl.ErrSize)
		}
	}
}

// P8: one bit turned never makes another segment of one: none is taken at all.
func TestTurnedBitsMakeNoOtherSegment(t *testing.T) {
	chance := newChance()
	for _, s := range append(someSegments(), sentSegment{withSegmentSum(fullSegment(), someWay(), 0), someWay()}) {
		b, _ := impl.EncodeSegment(s.Segment, s.src, s.dst)
		for bit := range 8 * len(b) {
			if len(b) > 120 && chance.Intn(len(b)) > 40 {
				continue
			}
			turnBit(b, bit)
			if got, code := impl.DecodeSegment(b, s.src, s.dst); code != impl.ErrSum && code != impl.ErrLength || !isNoSegment(got) {
				t.Errorf("bit %d of %s turned: %s, %d", bit, shortly(s), shortly(got), code)
			}
			turnBit(b, bit)
		}
	}
}

// P8: nor does one bit of the longest.
func TestTurnedBitsOfTheLongestSegments(t *testing.T) {
	chance := newChance()
	for _, s := range optionSegments() {
		b, _ := impl.EncodeSegment(filledTo(s, longestSegment), ownAddr, near)
		for range 20 {
			bit := chance.Intn(8 * len(b))
			turnBit(b, bit)
			if got, code := impl.DecodeSegment(b, ownAddr, near); code == impl.OK || !isNoSegment(got) {
				t.Errorf("bit %d turned: %s, %d", bit, shortly(got), code)
			}
			turnBit(b, bit)
		}
	}
}

func TestSegmentLength(t *testing.T) {
	for flags := range int64(256) {
		for _, n := range []int{0, 1, 2, 1460, 4001, 65516, 1 << 20} {
			want := int64(n) + flags&1 + flags>>1&1
			s := impl.Segment{SrcPort: -1, Seq: 9, Flags: flags, Window: 70000, Mss: 5, Sacks: make([]impl.Stretch, 4), Data: make([]byte, n)}
			if got := impl.SegmentLength(s); got != want {
				t.Errorf("SegmentLength with the flags %d and %d bytes: %d, not %d", flags, n, got, want)
			}
		}
	}
	if got := impl.SegmentLength(impl.Segment{}); got != 0 {
		t.Errorf("SegmentLength of an empty one: %d", got)
	}
	if got := impl.SegmentLength(fullSegment()); got != 5 {
		t.Errorf("SegmentLength(%v): %d, not 5", fullSegment(), got)
	}
}

func TestSegmentTexts(t *testing.T) {
	for text, s := range map[string]impl.Segment{
		"0>0 - 0 0 0":                                     {},
		"65535>0 SFRPAU 4294967295 0 65535":               {SrcPort: 65535, Flags: 63, Seq: lastAddr, Window: 65535},
		"0>65535 SF 0 4294967295 1":                       {DstPort: 65535, Flags: 3, Ack: lastAddr, Window: 1},
		"1>2 FU 3 4 5 mss 1":                              {SrcPort: 1, DstPort: 2, Seq: 3, Ack: 4, Flags: 33, Window: 5, Mss: 1},
		"1>2 RP 3 4 5 mss 65535 sackok":                   {SrcPort: 1, DstPort: 2, Seq: 3, Ack: 4, Flags: 12, Window: 5, Mss: 65535, SackOK: true},
		"0>0 A 0 0 0 scale 0":                             {Flags: 16, HasScale: true},
		"0>0 S 0 0 0 scale 14 sackok":                     {Flags: 2, HasScale: true, Scale: 14, SackOK: true},
		"0>0 - 0 0 0 sack 9-8":                            {Sacks: []impl.Stretch{{From: 9, To: 8}}},
		"0>0 - 0 0 0 sack 0-4294967295 sack 1-1 sack 0-0": {Sacks: []impl.Stretch{{From: 0, To: lastAddr}, {From: 1, To: 1}, {}}},
		"0>0 - 0 0 0 data 00":                             {Data: []byte{0}},
		"0>0 - 0 0 0 data 000102abcdef":                   {Data: []byte{0, 1, 2, 0xAB, 0xCD, 0xEF}},
		"1000>80 SFPA 4294967290 77 4096 mss 1460 scale 7 sackok sack 100-200 sack 4294967295-3 sack 9-8 data 6800ff": fullSegment(),
	} {
		if got, code := impl.ShowSegment(s); got != text || code != impl.OK {
			t.Errorf("ShowSegment(%v): %q, %d, not %q", s, got, code, text)
		}
		checkTextTold(t, text, s)
	}
}

// P17: valid segments with at most 4000 bytes of data come back from their texts.
func TestSegmentsComeBackFromTheirTexts(t *testing.T) {
	for _, s := range someSegments() {
		text, code := impl.ShowSegment(s.Segment)
		if code != impl.OK || text != plainSegmentText(s.Segment) {
			t.Fatalf("ShowSegment(%s): %.200q, %d", shortly(s), text, code)
		}
		checkTextTold(t, text, s.Segment)
	}
	every := make([]byte, 256)
	for x := range every {
		every[x] = byte(x)
		checkTextTold(t, "0>0 - 0 0 0 data "+hex.EncodeToString(every[x:x+1]), impl.Segment{Data: every[x : x+1]})
	}
	checkTextTold(t, "0>0 - 0 0 0 data "+hex.EncodeToString(every), impl.Segment{Data: every})
}

// 4000 bytes of data are shown and read, whatever else there is; 4001 are not.
func TestTextsBoundTheData(t *testing.T) {
	for _, s := range append(optionSegments(), impl.Segment{}) {
		for _, n := range []int{0, 1, mostShownData - 1, mostShownData, mostShownData + 1, mostShownData + 2, 2 * mostShownData, longestSegment, 1 << 17} {
			s.Data = randomBytes(newChance(), n)
			if n <= mostShownData {
				checkShowSegment(t, s, impl.OK)
				checkTextTold(t, plainSegmentText(s), s)
			} else {
				checkShowSegment(t, s, impl.ErrForm)
				checkReadSegment(t, plainSegmentText(s), impl.ErrText)
			}
		}
	}
}

// Numbers are read up to the greatest that a segment may have.
func TestReadSegmentAsksItsNumbers(t *testing.T) {
	for _, c := range []struct {
		form string
		most int64
	}{
		{"N>2 A 3 4 5", 65535}, {"1>N A 3 4 5", 65535}, {"1>2 A N 4 5", lastAddr}, {"1>2 A 3 N 5", lastAddr}, {"1>2 A 3 4 N", 65535},
		{"1>2 A 3 4 5 scale N", 14}, {"1>2 A 3 4 5 sack N-1", lastAddr}, {"1>2 A 3 4 5 sack 1-N", lastAddr},
		{"1>2 A 3 4 5 sack 1-2 sack 3-4 sack N-1", lastAddr}, {"1>2 A 3 4 5 sack 1-2 sack 3-4 sack 1-N data 00", lastAddr},
		{"1>2 A 3 4 5 mss 9 scale N sackok", 14}, {"N>N A N N N", 65535}, {"1>2 A 3 4 5 mss N", 65535},
	} {
		for _, n := range append(edgeNumbers(), 1, 13, 14, 15, 65534, c.most) {
			text := strings.ReplaceAll(c.form, "N", strconv.FormatInt(n, 10))
			want := int64(impl.OK)
			if !within(n, c.most) || strings.Contains(text, "mss 0") {
				want = impl.ErrText
			}
			checkReadSegment(t, text, want)
		}
		for _, ill := range append(illDecimals(), "", " ", "4294967296", "1 ", " 1", "\t1", "1\n", "1-", "1>", "0x0", "A", "１") {
			if n, err := strconv.ParseInt(ill, 10, 64); err == nil && within(n, c.most) && strconv.FormatInt(n, 10) == ill {
				continue
			}
			checkReadSegment(t, strings.ReplaceAll(c.form, "N", ill), impl.ErrText)
		}
	}
}

// Flags have their letters in one order, each at most once; without any there is a sign.
func TestReadSegmentAsksItsFlags(t *testing.T) {
	letters := []string{"S", "F", "R", "P", "A", "U"}
	for _, a := range letters {
		for _, b := range letters {
			want := int64(impl.ErrText)
			if slices.Index(letters, a) < slices.Index(letters, b) {
				want = impl.OK
			}
			checkReadSegment(t, "1>2 "+a+b+" 3 4 5", want)
			checkReadSegment(t, "1>2 "+a+b+" 3 4 5 data 00", want)
			for _, c := range letters {
				text := "1>2 " + a + b + c + " 3 4 5"
				checkReadSegment(t, text, modelCodeOf(text))
			}
		}
	}
	for _, ill := range []string{
		"", "--", "-A", "A-", "a", "s", "sfrpau", "X", "SX", "XS", "0", "16", "SAFE", "UAPRFS", "SFRPAUSFRPAU", "S A", "S,A", "SS", "AA", "SFRPAUU",
		"\x00", "A\x00", "\xff", "A\xff", "\u0410", "S\u0391", "\ufffd", ".", "_", "\u2212", "+", strings.Repeat("A", 5000), strings.Repeat("-", 5000),
	} {
		checkReadSegment(t, "1>2 "+ill+" 3 4 5", impl.ErrText)
		checkReadSegment(t, "1>2 "+ill+" 3 4 5 mss 7", impl.ErrText)
	}
}

// Each word lacking, each twice, and each two in the other order, in a text that has all of them.
func TestReadSegmentAsksItsWords(t *testing.T) {
	full := fullSegment()
	words := strings.Split(plainSegmentText(full), " ")
	checkTextTold(t, strings.Join(words, " "), full)
	for i := range words {
		without := strings.Join(slices.Delete(slices.Clone(words), i, i+1), " ")
		if words[i] == "sackok" {
			checkReadSegment(t, without, impl.OK)
		} else {
			checkReadSegment(t, without, impl.ErrText)
		}
		checkReadSegment(t, strings.Join(slices.Insert(slices.Clone(words), i, words[i]), " "), impl.ErrText)
		begin := strings.Join(words[:i], " ")
		checkReadSegment(t, begin, modelCodeOf(begin))
		for k := range i {
			other := slices.Clone(words)
			other[i], other[k] = other[k], other[i]
			text := strings.Join(other, " ")
			checkReadSegment(t, text, modelCodeOf(text))
		}
	}
	for i, a := range []string{"mss 7", "scale 7", "sackok", "sack 7-8", "data 07"} {
		for k, b := range []string{"mss 9", "scale 9", "sackok", "sack 9-9", "data 09"} {
			want := int64(impl.ErrText)
			if i < k || a == "sack 7-8" && i == k {
				want = impl.OK
			}
			checkReadSegment(t, "1>2 A 3 4 5 "+a+" "+b, want)
		}
	}
	checkReadSegment(t, "1>2 A 3 4 5 sack 1-2 sack 3-4 sack 5-6", impl.OK)
	checkReadSegment(t, "1>2 A 3 4 5 sack 1-2 sack 3-4 sack 5-6 sack 7-8", impl.ErrText)
	checkReadSegment(t, "1>2 A 3 4 5"+strings.Repeat(" sack 1-2", 100000), impl.ErrText)
}

// One blank between words, none ahead and none behind; nothing else is a blank.
func TestReadSegmentAsksItsBlanks(t *testing.T) {
	text := plainSegmentText(fullSegment())
	for _, blank := range []string{" ", "  ", "\t", "\n", "\r", "\v", "\f", "\x00", "\u00a0", "\u2003", "\u3000", "\ufeff", " \t", "#", " # x"} {
		checkReadSegment(t, blank+text, impl.ErrText)
		checkReadSegment(t, text+blank, impl.ErrText)
		checkReadSegment(t, blank+text+blank, impl.ErrText)
		checkReadSegment(t, "0>0 - 0 0 0"+blank, impl.ErrText)
		if blank == " " {
			continue
		}
		for i := range len(text) {
			if text[i] == ' ' {
				checkReadSegment(t, text[:i]+blank+text[i+1:], impl.ErrText)
			}
		}
	}
	for _, sign := range []string{">", "-"} {
		for _, apart := range []string{" " + sign, sign + " ", " " + sign + " ", sign + sign, "", " ", ",", "=", "\u2013"} {
			checkReadSegment(t, strings.Replace(text, sign, apart, 1), impl.ErrText)
			checkReadSegment(t, strings.Replace("1>2 A 3 4 5 sack 6-7", sign, apart, 1), impl.ErrText)
		}
	}
}

func TestReadSegmentRefuses(t *testing.T) {
	for _, text := range []string{
		"", " ", "-", ">", "0>0", "0>0 -", "0>0 - 0", "0>0 - 0 0", "0>0 - 0 0 0 ", "0>0 - 0 0 0 0", "0>0 - 0 0 0 x", "0 0 - 0 0 0", "0-0 - 0 0 0", "0<0 - 0 0 0",
		"0>0>0 - 0 0 0", ">0 - 0 0 0", "0> - 0 0 0", "> - 0 0 0", "0>0 0 0 0", "0>0 - -0 0 0", "00>0 - 0 0 0", "0>00 - 0 0 0", "0>0 - 00 0 0",
		"0>0 - 0 0 0 mss", "0>0 - 0 0 0 mss 0", "0>0 - 0 0 0 mss 00", "0>0 - 0 0 0 mss 01", "0>0 - 0 0 0 MSS 1", "0>0 - 0 0 0 mss1", "0>0 - 0 0 0 mss 1 mss 1",
		"0>0 - 0 0 0 scale", "0>0 - 0 0 0 scale 15", "0>0 - 0 0 0 scale -1", "0>0 - 0 0 0 scale 00", "0>0 - 0 0 0 scale x", "0>0 - 0 0 0 scale sackok",
		"0>0 - 0 0 0 sackOK", "0>0 - 0 0 0 sackok 1", "0>0 - 0 0 0 sackok sackok", "0>0 - 0 0 0 sacko", "0>0 - 0 0 0 sackok mss 1", "0>0 - 0 0 0 sackok scale 1",
		"0>0 - 0 0 0 sack", "0>0 - 0 0 0 sack 1", "0>0 - 0 0 0 sack 12", "0>0 - 0 0 0 sack 1 2", "0>0 - 0 0 0 sack 1 - 2", "0>0 - 0 0 0 sack 1>2", "0>0 - 0 0 0 sack -", "0>0 - 0 0 0 sack -2",
		"0>0 - 0 0 0 sack 1-", "0>0 - 0 0 0 sack 1-2-3", "0>0 - 0 0 0 sack 1--2", "0>0 - 0 0 0 sack 1-2 3-4", "0>0 - 0 0 0 sack 1-2,3-4", "0>0 - 0 0 0 sack 01-2",
		"0>0 - 0 0 0 data", "0>0 - 0 0 0 data ", "0>0 - 0 0 0 data  ", "0>0 - 0 0 0 data 0", "0>0 - 0 0 0 data 000", "0>0 - 0 0 0 data 0A", "0>0 - 0 0 0 data A0",
		"0>0 - 0 0 0 data 0g", "0>0 - 0 0 0 data g0", "0>0 - 0 0 0 data 00 00", "0>0 - 0 0 0 data 00 ", "0>0 - 0 0 0 data 00 data 00", "0>0 - 0 0 0 data 0x00", "0>0 - 0 0 0 data 00 sackok",
		"0>0 - 0 0 0 data 00 mss 1", "0>0 - 0 0 0 data -1", "0>0 - 0 0 0 data 0\x00", "0>0 - 0 0 0 00", "0>0 - 0 0 0 data \xff\xff", "0>0 - 0 0 0 data \u0660", "0>0 - 0 0 0 DATA 00",
		strings.Repeat(" ", 100000), strings.Repeat("0>0 - 0 0 0 ", 10000), "0>0 - 0 0 0 data " + strings.Repeat("0", 1<<20), "0>0 - 0 0 0" + strings.Repeat(" sackok", 10000),
	} {
		checkReadSegment(t, text, impl.ErrText)
	}
	// Small digits of base 16 alone are read, at either place of a byte.
	for x := range 256 {
		for _, word := range []string{string([]byte{byte(x), '0'}), string([]byte{'0', byte(x)})} {
			want := int64(impl.ErrText)
			if strings.ContainsRune("0123456789abcdef", rune(x)) {
				want = impl.OK
			}
			checkReadSegment(t, "0>0 - 0 0 0 data "+word, want)
		}
	}
}

// A text that tells a segment is just the one that the segment is shown as.
func TestTextsNearASegments(t *testing.T) {
	for _, s := range []impl.Segment{{}, fullSegment(), {Flags: 2, Mss: 10, Data: []byte{10}}, {HasScale: true, Scale: 1, SackOK: true}} {
		taken := 0
		for _, near := range oneByteOff(plainSegmentText(s)) {
			got, code := impl.ReadSegment(near)
			checkReadSegment(t, near, code)
			if code != impl.OK {
				continue
			}
			taken++
			if text, code := impl.ShowSegment(got); text != near || code != impl.OK {
				t.Errorf("%q tells %v, which is shown as %q, %d", near, got, text, code)
			}
		}
		if taken < 10 {
			t.Errorf("of those near %v %d are taken", s, taken)
		}
	}
}

// randomSegmentText is made of pieces, or of a segment's words, of which some may lack or come twice.
func randomSegmentText(chance *rand.Rand) string {
	pieces := []string{
		"0", "1", "7", "14", "15", "65535", "65536", "4294967295", "4294967296", ">", "-", "S", "F", "A", "SF", "SFRPAU", "mss", "scale", "sackok", "sack", "data",
		"00", "ff", "FF", "1>2", "3-4", " ", " ", " ", " ", "\t", "\n", "\xff",
	}
	var text strings.Builder
	switch chance.Intn(4) {
	case 0:
		for range chance.Intn(20) {
			text.WriteString(pieces[chance.Intn(len(pieces))])
		}
	case 1:
		text.WriteString("1>2 A 3 4 5")
		for range chance.Intn(8) {
			text.WriteString(" " + []string{"mss", "7", "scale", "7", "sackok", "sack", "7-8", "data", "07"}[chance.Intn(9)])
		}
	default:
		words := strings.Split(plainSegmentText(randomSegment(chance, chance.Intn(5))), " ")
		for i, word := range words {
			if i > 0 {
				text.WriteString(" ")
			}
			text.WriteString(strings.Repeat(word, []int{0, 1, 1, 1, 1, 1, 1, 1, 1, 1, 1, 1, 1, 1, 1, 2}[chance.Intn(16)]))
		}
	}
	return text.String()
}

// P51: whatever it is given a call ends, and answers the same again.
func TestSegmentsAnswerTheSameAgain(t *testing.T) {
	chance := newChance()
	numbers := append(edgeNumbers(), 1, 2, 14, 15, 63, 64, ownAddr, near)
	pick := func() int64 { return numbers[chance.Intn(len(numbers))] }
	told := map[int64]int{}
	for range 10000 {
		s, w := randomSegment(chance, chance.Intn(50)), randomWay(chance)
		for range chance.Intn(3) {
			s.Sacks = append(s.Sacks, impl.Stretch{From: pick(), To: pick()})
			s.HasScale, s.Scale, s.Mss, s.Flags, w.src = chance.Intn(2) == 1, pick(), pick(), pick(), pick()
		}
		first, code := impl.EncodeSegment(s, w.src, w.dst)
		again, codeAgain := impl.EncodeSegment(s, w.src, w.dst)
		if !bytes.Equal(first, again) || code != codeAgain {
			t.Errorf("EncodeSegment(%v, %v): %x, %d, then %x, %d", s, w, first, code, again, codeAgain)
		}
		checkEncodeSegment(t, s, w, code)
		_, code = impl.ShowSegment(s)
		checkShowSegment(t, s, code)
		checkShowSegment(t, cloneSegment(s), code)
		if n := impl.SegmentLength(s); n != impl.SegmentLength(cloneSegment(s)) || n < int64(len(s.Data)) || n > int64(len(s.Data)+2) {
			t.Errorf("SegmentLength(%v): %d", s, n)
		}
		b := likelySegment(chance, w)
		_, code = impl.DecodeSegment(b, w.src, w.dst)
		checkDecodeSegment(t, b, w, code)
		checkDecodeSegment(t, bytes.Clone(b), w, code)
		text := randomSegmentText(chance)
		_, code = impl.ReadSegment(text)
		told[code]++
		checkReadSegment(t, text, code)
		checkReadSegment(t, strings.Clone(text), code)
	}
	if told[impl.OK] < 1000 || told[impl.ErrText] < 1000 {
		t.Errorf("texts are answered with %v", told)
	}
	for range 2000 {
		b := randomBytes(chance, chance.Intn(100))
		_, code := modelDecodeSegment(b, someWay())
		checkDecodeSegment(t, b, someWay(), code)
		checkReadSegment(t, string(b), impl.ErrText)
	}
}

// P51: data and stretches stay as they are, the room behind them too, and are not what the bytes stand in.
func TestEncodeSegmentLeavesItsLists(t *testing.T) {
	for _, n := range []int{0, 1, 2, 100, 101, longestSegment} {
		for _, sacks := range []int{0, 1, 3, 4} {
			for _, port := range []int64{7, -1} {
				room := randomBytes(newChance(), n+40)
				stretches := make([]impl.Stretch, 10)
				for i := range stretches {
					stretches[i] = impl.Stretch{From: int64(i), To: int64(i) * 1000}
				}
				kept := slices.Clone(stretches)
				s := impl.Segment{SrcPort: port, Sacks: stretches[2 : 2+sacks], Data: room[20 : 20+n]}
				keptRoom := bytes.Clone(room)
				impl.ShowSegment(s)
				impl.SegmentLength(s)
				if !bytes.Equal(room, keptRoom) {
					t.Errorf("ShowSegment or SegmentLength changes %d bytes of data", n)
				}
				checkWritesApart(t, room, func() ([]byte, int64) { return impl.EncodeSegment(s, ownAddr, near) })
				if !slices.Equal(stretches, kept) {
					t.Errorf("%d stretches have become %v", sacks, stretches)
				}
			}
		}
	}
}

// P51: the bytes that are read stay as they are, the room behind them too; the data stand apart from them.
func TestDecodeSegmentLeavesItsBytes(t *testing.T) {
	read := func(b []byte) (impl.Segment, int64) { return impl.DecodeSegment(b, ownAddr, near) }
	dataOf := func(s impl.Segment) []byte { return s.Data }
	for _, s := range optionSegments() {
		for _, n := range []int{0, 1, 2, 100} {
			s.Data = randomBytes(newChance(), n)
			checkReadsApart(t, plainSegment(s, someWay()), read, sameSegment, s, dataOf)
		}
		long := filledTo(s, longestSegment)
		checkReadsApart(t, plainSegment(long, someWay()), read, sameSegment, long, dataOf)
	}
}

// P51: no two answers share a list, be they read from bytes or from a text.
func TestSegmentsShareNoLists(t *testing.T) {
	b, text := plainSegment(fullSegment(), someWay()), plainSegmentText(fullSegment())
	for _, read := range []func() (impl.Segment, int64){
		func() (impl.Segment, int64) { return impl.DecodeSegment(b, ownAddr, near) },
		func() (impl.Segment, int64) { return impl.ReadSegment(text) },
	} {
		first, _ := read()
		second, _ := read()
		spoil(second.Sacks, impl.Stretch{From: 99, To: 99})
		spoil(second.Data, 99)
		third, _ := read()
		if !sameSegment(first, fullSegment()) || !sameSegment(third, fullSegment()) {
			t.Errorf("%v and %v share memory with %v", first, third, second)
		}
	}
}

// P51: bytes that are refused stay as they are, too.
func TestDecodeSegmentLeavesWhatItRefuses(t *testing.T) {
	right := plainSegment(fullSegment(), someWay())
	for n := range len(right) + 1 {
		room := append(bytes.Clone(right), bytes.Repeat([]byte{7}, 20)...)
		room[17] ^= 1
		kept := bytes.Clone(room)
		for _, w := range append(illWays(), someWay()) {
			if s, code := impl.DecodeSegment(room[:n], w.src, w.dst); code == impl.OK || !isNoSegment(s) {
				t.Errorf("DecodeSegment(%x, %v): %v, %d", room[:n], w, s, code)
			}
		}
		if !bytes.Equal(room, kept) {
			t.Errorf("DecodeSegment of %d bytes changes them: %x, not %x", n, room, kept)
		}
	}
}
