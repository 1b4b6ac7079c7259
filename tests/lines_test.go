package tests

import (
	"math/rand"
	"slices"
	"strings"
	"testing"

	"loop.example/g00003/impl"
)

// lineKind is a kind of values of which a text has a line each: what the program makes of them, and what a model does.
type lineKind[T comparable] struct {
	most int
	read func(text string) ([]T, int64, int64)
	show func(list []T) (string, int64)
	// model reads a line by its form as a whole, without what stands behind a #.
	model func(line string) (T, bool)
	// plain is a valid value's line, without its newline, written apart from the program.
	plain func(value T) string
	// good are valid, and ill are not; of illLines none is of no words.
	good, ill []T
	illLines  []string
	// longest has a line of as many bytes and words as there may be.
	longest T
	random  func(chance *rand.Rand) T
	// pieces are what lines are made of, and some things that they are not.
	pieces []string
}

func (k lineKind[T]) modelRead(text string) ([]T, int64, int64) {
	if len(text) > 20000 {
		return nil, impl.ErrSize, 0
	}
	var list []T
	for i, line := range strings.Split(text, "\n") {
		line = strings.SplitN(line, "#", 2)[0]
		if strings.Trim(line, " \t") == "" {
			continue
		}
		value, ok := k.model(line)
		if !ok {
			return nil, impl.ErrSyntax, int64(i + 1)
		}
		if len(list) == k.most {
			return nil, impl.ErrCount, int64(i + 1)
		}
		list = append(list, value)
	}
	return list, impl.OK, 0
}

func (k lineKind[T]) plainText(list []T) string {
	var text strings.Builder
	for _, value := range list {
		text.WriteString(k.plain(value) + "\n")
	}
	return text.String()
}

func (k lineKind[T]) someOf(chance *rand.Rand, n int) []T {
	var list []T
	for range n {
		list = append(list, k.random(chance))
	}
	return list
}

// checkRead asks for the values with OK, and for nothing but the code and the line else.
func (k lineKind[T]) checkRead(t *testing.T, text string, want []T, code, line int64) {
	t.Helper()
	got, gotCode, gotLine := k.read(text)
	model, modelCode, modelLine := k.modelRead(text)
	if !slices.Equal(got, want) || gotCode != code || gotLine != line {
		t.Errorf("%.200q is read as %s, %d, %d, not %s, %d, %d", text, shortly(got), gotCode, gotLine, shortly(want), code, line)
	}
	if !slices.Equal(got, model) || gotCode != modelCode || gotLine != modelLine {
		t.Errorf("%.200q is read as %s, %d, %d; the model: %s, %d, %d", text, shortly(got), gotCode, gotLine, shortly(model), modelCode, modelLine)
	}
}

func (k lineKind[T]) checkReads(t *testing.T, text string, want ...T) {
	t.Helper()
	k.checkRead(t, text, want, impl.OK, 0)
}

func (k lineKind[T]) checkIll(t *testing.T, text string, line int64) {
	t.Helper()
	k.checkRead(t, text, nil, impl.ErrSyntax, line)
}

func (k lineKind[T]) checkAsModel(t *testing.T, text string) {
	t.Helper()
	want, code, line := k.modelRead(text)
	k.checkRead(t, text, want, code, line)
}

func (k lineKind[T]) checkShow(t *testing.T, list []T, want string, code int64) {
	t.Helper()
	if got, gotCode := k.show(list); got != want || gotCode != code {
		t.Errorf("%s is shown as %.200q, %d, not %.200q, %d", shortly(list), got, gotCode, want, code)
	}
}

// checkAll asks for what the document says of texts of lines, whatever stands in them.
func (k lineKind[T]) checkAll(t *testing.T) {
	t.Run("no words", k.checkNoWords)
	t.Run("long texts", k.checkLongTexts)
	t.Run("last lines", k.checkLastLines)
	t.Run("blanks", k.checkBlanks)
	t.Run("other white space", k.checkOtherWhiteSpace)
	t.Run("remarks", k.checkRemarks)
	t.Run("ill lines", k.checkIllLines)
	t.Run("the first error", k.checkFirstError)
	t.Run("many values", k.checkManyValues)
	t.Run("edges", k.checkEdges)
	t.Run("shown lists", k.checkShownLists)
	t.Run("near a line", k.checkNearALine)
}

func (k lineKind[T]) checkNoWords(t *testing.T) {
	line := k.plain(k.longest)
	for _, text := range []string{
		"", "\n", "\n\n\n", " ", "\t", " \t \n\t \t", "#", "##", "# " + line, "#\n#\n", " #\n\t#x\n", "#\x00\xff\r\v\f", "\n#",
		"# " + line + "\n#\t" + line + " x", strings.Repeat("\n", impl.MaxText), strings.Repeat(" ", impl.MaxText),
		strings.Repeat("#", impl.MaxText), strings.Repeat("\t\n", impl.MaxText/2), "#" + strings.Repeat("\xf0", impl.MaxText-1),
	} {
		k.checkReads(t, text)
	}
	k.checkShow(t, nil, "", impl.OK)
	k.checkShow(t, []T{}, "", impl.OK)
}

// A text may have MaxText bytes; of more nothing is read, neither an ill line nor too many values.
func (k lineKind[T]) checkLongTexts(t *testing.T) {
	line := k.plain(k.longest) + "\n"
	for _, filling := range []string{"#", " ", "\t", "\n"} {
		for _, n := range []int{impl.MaxText - 1, impl.MaxText, impl.MaxText + 1, impl.MaxText + 2, 2 * impl.MaxText, 1 << 20} {
			fill := strings.Repeat(filling, n-len(line))
			texts := []string{line + fill}
			if filling != "#" {
				texts = append(texts, fill+line, fill+line[:len(line)-1]+filling)
			}
			for _, text := range texts {
				if n <= impl.MaxText {
					k.checkReads(t, text, k.longest)
				} else {
					k.checkRead(t, text, nil, impl.ErrSize, 0)
				}
			}
		}
	}
	for _, piece := range []string{"x", "x\n", "\x00", k.illLines[0] + "\n", line, line + "x\n"} {
		times := impl.MaxText/len(piece) + 1
		k.checkRead(t, strings.Repeat(piece, times)[:impl.MaxText+1], nil, impl.ErrSize, 0)
		k.checkAsModel(t, strings.Repeat(piece, times)[:impl.MaxText])
	}
}

// The last line may lack its newline; an empty line behind it is none.
func (k lineKind[T]) checkLastLines(t *testing.T) {
	a, b := k.good[0], k.longest
	first, second := k.plain(a), k.plain(b)
	for _, end := range []string{"", "\n", "\n\n", " ", "\t\n", "#", "#\n", " # x", " # x\n \n#"} {
		k.checkReads(t, first+end, a)
		k.checkReads(t, first+"\n"+second+end, a, b)
		k.checkReads(t, "\n\n"+first+"\n\n"+second+end, a, b)
		k.checkIll(t, first+"\n"+second+" x"+end, 2)
	}
	k.checkIll(t, first+" "+second, 1)
	k.checkIll(t, first+second, 1)
}

func (k lineKind[T]) checkBlanks(t *testing.T) {
	words := strings.Fields(k.plain(k.longest))
	blanks := []string{" ", "\t", "  ", "\t\t", " \t", "\t ", "   \t\t\t   ", strings.Repeat(" ", 1000), strings.Repeat("\t", 1000)}
	for _, blank := range blanks {
		line := strings.Join(words, blank)
		short := strings.Join(words, " ")
		for _, around := range append(blanks, "") {
			k.checkReads(t, around+line, k.longest)
			k.checkReads(t, line+around, k.longest)
			k.checkReads(t, around+line+around+"\n", k.longest)
			k.checkReads(t, line+around+"# "+short, k.longest)
			k.checkReads(t, line+around+"#"+short+around+"#\n", k.longest)
		}
	}
	// Without a blank between them two words are one, which is another.
	for i := 1; i < len(words); i++ {
		k.checkIll(t, strings.Join(words[:i], " ")+strings.Join(words[i:], " "), 1)
	}
}

// Only spaces and tabs part words, and only a newline ends a line; other white space belongs to a word.
func (k lineKind[T]) checkOtherWhiteSpace(t *testing.T) {
	line := k.plain(k.longest)
	words := strings.Fields(line)
	for _, white := range []string{"\r", "\v", "\f", "\x00", "\x1c", "\x85", "\xa0", "\u0085", "\u00a0", "\u1680", "\u2003", "\u2028", "\u2029", "\u202f", "\u3000", "\ufeff", "\u200b"} {
		k.checkIll(t, white, 1)
		k.checkIll(t, " \n \t"+white+" \n", 2)
		for i := range len(words) {
			ahead, behind := strings.Join(words[:i], " "), strings.Join(words[i:], " ")
			k.checkIll(t, ahead+white+behind, 1)
			k.checkIll(t, ahead+" "+white+" "+behind, 1)
		}
		k.checkIll(t, line+white, 1)
		k.checkIll(t, line+white+"\n"+line, 1)
		k.checkIll(t, line+" "+white+"\n", 1)
		k.checkReads(t, line+"#"+white+"\n#"+white, k.longest)
	}
}

// A remark may touch a word, but what is ahead of it must be a whole line.
func (k lineKind[T]) checkRemarks(t *testing.T) {
	line := k.plain(k.longest)
	for _, remark := range []string{"#", "#x", "# x", "##", "#\t#", "#metric 7", "#4", "# new", "# \xff\x00", "#\r"} {
		k.checkReads(t, line+remark, k.longest)
		k.checkReads(t, line+remark+"\n"+line+" "+remark, k.longest, k.longest)
		k.checkReads(t, remark+"\n"+line, k.longest)
		for i := range len(line) {
			k.checkAsModel(t, line[:i]+remark+line[i:])
			k.checkAsModel(t, "\n"+line[:i]+remark+"\n"+line)
		}
	}
}

func (k lineKind[T]) checkIllLines(t *testing.T) {
	good := k.plain(k.good[0]) + "\n"
	for _, line := range k.illLines {
		k.checkIll(t, line, 1)
		k.checkIll(t, line+"\n", 1)
		k.checkIll(t, " \t"+line+"\t # x\n", 1)
		k.checkIll(t, good+line+"\n"+good, 2)
		k.checkIll(t, good+"\n# "+line+"\n\t\n"+good+line, 6)
		k.checkReads(t, "#"+line+"\n"+good, k.good[0])
	}
}

// The first line at fault counts, with its number among all lines, those without words too.
func (k lineKind[T]) checkFirstError(t *testing.T) {
	good := k.plain(k.good[0]) + "\n"
	for _, nothing := range []string{"", "\n", "# x\n", "\n\n \t\n#\n", strings.Repeat("\n", 1000), strings.Repeat("#\n\t\n", 100)} {
		skipped := int64(strings.Count(nothing, "\n"))
		k.checkIll(t, nothing+"x", skipped+1)
		k.checkIll(t, nothing+"x\n"+nothing+"y\n", skipped+1)
		k.checkIll(t, nothing+good+nothing+"x\n"+nothing+good+"y", 2*skipped+2)
		k.checkIll(t, good+nothing+good+nothing+"x\n"+nothing, 2*skipped+3)
		k.checkIll(t, nothing+good+nothing+good+nothing+"\tx", 3*skipped+3)
	}
}

// Values are counted, not lines; a line behind as many as there may be is told by what it is itself.
func (k lineKind[T]) checkManyValues(t *testing.T) {
	full := slices.Repeat(k.good[:1], k.most)
	line := k.plain(k.good[0]) + "\n"
	text := strings.Repeat(line, k.most)
	behind := int64(k.most + 1)
	k.checkReads(t, text[len(line):], full[1:]...)
	k.checkReads(t, text, full...)
	k.checkReads(t, strings.TrimSuffix(text, "\n"), full...)
	k.checkReads(t, text+"\n# "+line+" \t\n"+"#", full...)
	k.checkReads(t, strings.Repeat("\n# x\n"+line, k.most), full...)
	k.checkRead(t, text+line, nil, impl.ErrCount, behind)
	k.checkRead(t, text+"\n#\n"+line+line, nil, impl.ErrCount, behind+2)
	k.checkIll(t, text+"x", behind)
	k.checkIll(t, text+"# y\n x\n", behind+1)
	k.checkRead(t, text+line+"x\n", nil, impl.ErrCount, behind)
	k.checkIll(t, text+"x\n"+line, behind)
	k.checkRead(t, text+line+line+line, nil, impl.ErrCount, behind)
	k.checkIll(t, text+k.illLines[0]+"\n"+line, behind)
	k.checkIll(t, "x\n"+text+line, 1)
	k.checkIll(t, line+"x\n"+text+line, 2)
	k.checkIll(t, strings.Repeat(line, k.most-1)+"x\n"+line+line, behind-1)
	k.checkRead(t, strings.Repeat(line, 200), nil, impl.ErrCount, behind)
}

// Each valid value comes from its line, and shows as it.
func (k lineKind[T]) checkEdges(t *testing.T) {
	for _, value := range k.good {
		line := k.plain(value)
		k.checkReads(t, line, value)
		k.checkShow(t, []T{value}, line+"\n", impl.OK)
		k.checkShow(t, []T{value, k.good[0], value}, line+"\n"+k.plain(k.good[0])+"\n"+line+"\n", impl.OK)
	}
}

// Too long a list is told ahead of a value that is not valid, wherever that stands.
func (k lineKind[T]) checkShownLists(t *testing.T) {
	good := k.good[0]
	for _, ill := range k.ill {
		k.checkShow(t, []T{ill}, "", impl.ErrForm)
		k.checkShow(t, []T{good, ill}, "", impl.ErrForm)
		k.checkShow(t, []T{ill, good}, "", impl.ErrForm)
	}
	for _, n := range []int{k.most - 1, k.most, k.most + 1, 2 * k.most, 100000} {
		list := slices.Repeat([]T{good}, n)
		text, right, wrong := k.plainText(list), int64(impl.OK), int64(impl.ErrForm)
		if n > k.most {
			text, right, wrong = "", impl.ErrCount, impl.ErrCount
		}
		k.checkShow(t, list, text, right)
		for _, place := range []int{0, n / 2, n - 1} {
			list[place] = k.ill[0]
			k.checkShow(t, list, "", wrong)
			list[place] = good
		}
		k.checkShow(t, slices.Repeat(k.ill[:1], n), "", wrong)
	}
}

// What is read shows as a text that is read as the same.
func (k lineKind[T]) checkNearALine(t *testing.T) {
	for _, value := range []T{k.good[0], k.longest} {
		for _, near := range oneByteOff(k.plain(value)) {
			k.checkAsModel(t, near)
			list, code, _ := k.read(near)
			if code != impl.OK {
				continue
			}
			text, code := k.show(list)
			if code != impl.OK {
				t.Fatalf("what %q tells is shown with %d", near, code)
			}
			k.checkReads(t, text, list...)
		}
	}
}

// checkComeBack is for P15: lists come back from their texts, and an ill line behind them is told by its number.
func (k lineKind[T]) checkComeBack(t *testing.T) {
	chance := newChance()
	lists := [][]T{nil, {}, k.good[:1], slices.Repeat([]T{k.longest}, k.most)}
	for n := range k.most + 1 {
		for range 5 {
			lists = append(lists, k.someOf(chance, n))
		}
	}
	for part := range slices.Chunk(k.good, k.most) {
		lists = append(lists, part)
	}
	for _, list := range lists {
		text, code := k.show(list)
		if code != impl.OK || text != k.plainText(list) {
			t.Fatalf("%v is shown as %q, %d", list, text, code)
		}
		k.checkReads(t, text, list...)
		behind := int64(len(list) + 1)
		for range 10 {
			line := k.illLines[chance.Intn(len(k.illLines))]
			k.checkIll(t, text+line, behind)
			k.checkIll(t, text+"\n#\n"+line+"\n"+k.plain(k.longest), behind+2)
		}
	}
}

// randomText has now and then a line of pieces, or one that lacks a word or has one twice; most lines of some are good.
func (k lineKind[T]) randomText(chance *rand.Rand) string {
	var text strings.Builder
	for range chance.Intn(90) {
		switch chance.Intn(40) {
		case 0:
			for range chance.Intn(8) {
				text.WriteString(k.pieces[chance.Intn(len(k.pieces))])
			}
		case 1:
			for _, word := range strings.Fields(k.plain(k.random(chance))) {
				text.WriteString(strings.Repeat(word+" ", []int{0, 1, 1, 1, 1, 1, 1, 1, 1, 2}[chance.Intn(10)]))
			}
			text.WriteString("\n")
		case 2, 3:
			text.WriteString([]string{"\n", " \t\n", "# x\n", "#"}[chance.Intn(4)])
		default:
			text.WriteString(k.plain(k.random(chance)) + "\n")
		}
	}
	return text.String()
}

// checkSameAgain is for P51: whatever it is given a call ends, and answers the same again.
func (k lineKind[T]) checkSameAgain(t *testing.T) {
	chance := newChance()
	told := map[int64]int{}
	for range 6000 {
		text := k.randomText(chance)
		_, code, _ := k.read(text)
		told[code]++
		k.checkAsModel(t, text)
		k.checkAsModel(t, strings.Clone(text))
	}
	for _, code := range []int64{impl.OK, impl.ErrSyntax, impl.ErrCount} {
		if told[code] < 50 {
			t.Errorf("code %d comes %d times", code, told[code])
		}
	}
	for range 300 {
		k.checkAsModel(t, string(randomBytes(chance, chance.Intn(300))))
	}
	k.checkAsModel(t, string(randomBytes(chance, impl.MaxText)))
	for range 3000 {
		list := k.someOf(chance, chance.Intn(4))
		for range chance.Intn(3) {
			list = slices.Insert(list, chance.Intn(len(list)+1), k.ill[chance.Intn(len(k.ill))])
		}
		text, code := k.show(list)
		k.checkShow(t, slices.Clone(list), text, code)
	}
}

// checkLeftAlone is for P51: a list stays as it is, the room behind it too, and no answer is its memory or another's.
func (k lineKind[T]) checkLeftAlone(t *testing.T) {
	chance := newChance()
	for _, n := range []int{0, 1, 5, k.most, k.most + 1} {
		room := k.someOf(chance, n+20)
		kept := slices.Clone(room)
		list := kept[10 : 10+n]
		text, code := k.show(room[10 : 10+n])
		if !slices.Equal(room, kept) {
			t.Fatalf("a list of %d is changed", n)
		}
		told := strings.Clone(text)
		clear(room)
		if text != told || n <= k.most && text != k.plainText(list) || (code == impl.OK) != (n <= k.most) {
			t.Errorf("the text of %d values: %q, %d", n, text, code)
		}
		if n > k.most {
			continue
		}
		first, _, _ := k.read(text)
		second, _, _ := k.read(text)
		spoil(second, k.ill[0])
		if !slices.Equal(first, list) || text != told {
			t.Errorf("a list of %d that was read shares memory", n)
		}
		k.checkReads(t, text, list...)
	}
}
