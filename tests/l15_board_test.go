package tests

import (
	"fmt"
	"math"
	"math/rand"
	"regexp"
	"slices"
	"strings"
	"testing"

	"loop.example/g00003/impl"
)

const (
	lastPlace  = 1099511627776
	mostPieces = 4096
	lastTime   = 1000000000
	mostTimes  = 1000000
	mostSend   = 65535
)

var pieceForm = regexp.MustCompile(`^(-?\d+)([SL]?)(?:x(-?\d+))?(?:@(-?\d+))?$`)

// boardAt is a board whose Una is una. A word of text is a piece: its bytes, S or L if it is Sacked or Lost, x and how
// often it was sent if not once, @ and when it was sent the last time if not at 0.
func boardAt(una int64, text string) impl.Board {
	b := impl.Board{Una: una, Nxt: una}
	for _, word := range strings.Fields(text) {
		parts := pieceForm.FindStringSubmatch(word)
		p := impl.Piece{From: b.Nxt, To: b.Nxt + numberOr(parts[1], 0), At: numberOr(parts[4], 0), Times: numberOr(parts[3], 1)}
		p.Sacked, p.Lost = parts[2] == "S", parts[2] == "L"
		b.Pieces = append(b.Pieces, p)
		b.Nxt = p.To
	}
	return b
}

func numberOr(text string, without int64) int64 {
	if text == "" {
		return without
	}
	return numberIn(text)
}

// likePieces is the text of n pieces that are all alike.
func likePieces(n int, word string) string { return strings.Repeat(word+" ", n) }

func sameBoard(a, b impl.Board) bool {
	return a.Una == b.Una && a.Nxt == b.Nxt && slices.Equal(a.Pieces, b.Pieces)
}

func cloneBoard(b impl.Board) impl.Board {
	b.Pieces = slices.Clone(b.Pieces)
	return b
}

// boardIn is what a call of chapter 16 is given beside the board; each call takes of it what it has a parameter for.
type boardIn struct {
	n, at, ack, most int64
	sacks            []impl.Stretch
}

// boardTold is what a call answers; what it has no answer for is zero.
type boardTold struct {
	board   impl.Board
	news    impl.BoardNews
	piece   impl.Piece
	n, code int64
}

// boardCall is one of the calls that make a board of another one. valid tells whether the numbers are what the document
// allows for a valid board, and model what is to come of them.
type boardCall struct {
	name  string
	call  func(b impl.Board, in boardIn) boardTold
	valid func(b impl.Board, in boardIn) bool
	model func(b impl.Board, in boardIn) boardTold
}

func sameTold(a, b boardTold) bool {
	return sameBoard(a.board, b.board) && a.news == b.news && a.piece == b.piece && a.n == b.n && a.code == b.code
}

func anyNumbers(impl.Board, boardIn) bool { return true }

func boardCalls() []boardCall {
	return []boardCall{
		{"BoardSend", func(b impl.Board, in boardIn) (told boardTold) {
			told.board, told.code = impl.BoardSend(b, in.n, in.at)
			return told
		}, func(_ impl.Board, in boardIn) bool { return within(in.n-1, mostSend-1) && within(in.at, lastTime) }, modelSend},
		{"BoardAck", func(b impl.Board, in boardIn) (told boardTold) {
			told.board, told.news, told.code = impl.BoardAck(b, in.ack, in.sacks)
			return told
		}, func(b impl.Board, in boardIn) bool { return in.ack >= b.Una && in.ack <= b.Nxt && len(in.sacks) < 4 }, modelBoardAck},
		{"BoardLose", func(b impl.Board, _ boardIn) (told boardTold) {
			told.board, told.n, told.code = impl.BoardLose(b)
			return told
		}, anyNumbers, modelLose},
		{"BoardFirst", func(b impl.Board, _ boardIn) (told boardTold) {
			told.board, told.n, told.code = impl.BoardFirst(b)
			return told
		}, anyNumbers, modelLoseFirst},
		{"BoardTimeout", func(b impl.Board, _ boardIn) (told boardTold) {
			told.board, told.code = impl.BoardTimeout(b)
			return told
		}, anyNumbers, modelTimeout},
		{"BoardAgain", func(b impl.Board, in boardIn) (told boardTold) {
			told.board, told.piece, told.code = impl.BoardAgain(b, in.at)
			return told
		}, func(_ impl.Board, in boardIn) bool { return within(in.at, lastTime) }, modelAgain},
		{"BoardSplit", func(b impl.Board, in boardIn) (told boardTold) {
			told.board, told.code = impl.BoardSplit(b, in.most)
			return told
		}, func(_ impl.Board, in boardIn) bool { return within(in.most-1, mostSend-1) }, modelSplit},
	}
}

// modelValidBoard looks for each piece at the end of the one ahead, and for the last one at Nxt.
func modelValidBoard(b impl.Board) bool {
	if !within(b.Una, b.Nxt) || b.Nxt > lastPlace || len(b.Pieces) > mostPieces {
		return false
	}
	ends := []int64{b.Una}
	for i, p := range b.Pieces {
		if p.From != ends[i] || p.To <= p.From || !within(p.At, lastTime) || !within(p.Times-1, mostTimes-1) || p.Sacked && p.Lost {
			return false
		}
		ends = append(ends, p.To)
	}
	return ends[len(ends)-1] == b.Nxt
}

func modelSend(b impl.Board, in boardIn) boardTold {
	if len(b.Pieces) >= mostPieces || in.n > lastPlace-b.Nxt {
		return boardTold{code: impl.ErrFull}
	}
	added := impl.Piece{From: b.Nxt, To: b.Nxt + in.n, At: in.at, Times: 1}
	return boardTold{board: impl.Board{Una: b.Una, Nxt: added.To, Pieces: append(slices.Clone(b.Pieces), added)}}
}

func modelBoardAck(b impl.Board, in boardIn) boardTold {
	told := boardTold{board: impl.Board{Una: in.ack, Nxt: b.Nxt}, news: impl.BoardNews{Acked: in.ack - b.Una, Sample: -1}}
	for _, p := range b.Pieces {
		if p.To <= in.ack {
			if !p.Sacked && p.Times == 1 {
				told.news.Sample = p.At
			}
			continue
		}
		p.From = max(p.From, in.ack)
		for _, s := range in.sacks {
			if s.From < in.ack || s.From >= s.To || s.To > b.Nxt || p.From < s.From || p.To > s.To || p.Sacked {
				continue
			}
			told.news.Sacked += p.To - p.From
			p.Sacked, p.Lost = true, false
		}
		told.board.Pieces = append(told.board.Pieces, p)
	}
	return told
}

func modelLose(b impl.Board, _ boardIn) boardTold {
	told := boardTold{board: cloneBoard(b)}
	for i, p := range b.Pieces {
		sacked := 0
		for _, later := range b.Pieces[i+1:] {
			sacked += int(oneIf(later.Sacked))
		}
		if p.Times == 1 && !p.Sacked && !p.Lost && sacked > 2 {
			told.board.Pieces[i].Lost = true
			told.n += p.To - p.From
		}
	}
	return told
}

func modelLoseFirst(b impl.Board, _ boardIn) boardTold {
	told := boardTold{board: cloneBoard(b)}
	if len(b.Pieces) > 0 && !b.Pieces[0].Sacked && !b.Pieces[0].Lost {
		told.board.Pieces[0].Lost = true
		told.n = b.Pieces[0].To - b.Una
	}
	return told
}

func modelTimeout(b impl.Board, _ boardIn) boardTold {
	told := boardTold{board: cloneBoard(b)}
	for i, p := range b.Pieces {
		told.board.Pieces[i] = impl.Piece{From: p.From, To: p.To, At: p.At, Times: p.Times, Lost: true}
	}
	return told
}

func modelAgain(b impl.Board, in boardIn) boardTold {
	told := boardTold{board: cloneBoard(b), code: impl.ErrState}
	i := slices.IndexFunc(b.Pieces, func(p impl.Piece) bool { return p.Lost })
	if i < 0 {
		return boardTold{code: impl.ErrState}
	}
	p := b.Pieces[i]
	told.piece = impl.Piece{From: p.From, To: p.To, At: in.at, Times: p.Times + 1}
	if p.Times == mostTimes {
		told.piece.Times = mostTimes
	}
	told.board.Pieces[i] = told.piece
	told.code = impl.OK
	return told
}

// modelSplit gives up as soon as there are too many.
func modelSplit(b impl.Board, in boardIn) boardTold {
	told := boardTold{board: impl.Board{Una: b.Una, Nxt: b.Nxt}}
	for _, whole := range b.Pieces {
		for from := whole.From; from < whole.To; from += in.most {
			p := whole
			p.From, p.To = from, min(from+in.most, whole.To)
			told.board.Pieces = append(told.board.Pieces, p)
			if len(told.board.Pieces) > mostPieces {
				return boardTold{code: impl.ErrFull}
			}
		}
	}
	return told
}

// sumOf is how many bytes the pieces have that are as asked.
func sumOf(b impl.Board, asked func(impl.Piece) bool) int64 {
	var n int64
	for _, p := range b.Pieces {
		if asked(p) {
			n += p.To - p.From
		}
	}
	return n
}

// checkParts is P22: what is on the way, lost and sacked is together all from Una to Nxt.
func checkParts(t *testing.T, b impl.Board) {
	t.Helper()
	lost := sumOf(b, func(p impl.Piece) bool { return p.Lost })
	sacked := sumOf(b, func(p impl.Piece) bool { return p.Sacked })
	if pipe := impl.BoardPipe(b); !modelValidBoard(b) || pipe+lost+sacked != b.Nxt-b.Una || pipe < 0 {
		t.Errorf("%d on the way, %d lost, %d sacked of %s", pipe, lost, sacked, shortly(b))
	}
}

func modelTold(call boardCall, b impl.Board, in boardIn) boardTold {
	if !modelValidBoard(b) || !call.valid(b, in) {
		return boardTold{code: impl.ErrForm}
	}
	return call.model(b, in)
}

// checkBoard asks all calls for what the model says of a board and numbers. P22: what is answered holds together. P51:
// each of them is asked twice, and leaves what it is given as it is.
func checkBoard(t *testing.T, b impl.Board, in boardIn) {
	t.Helper()
	kept, keptSacks := cloneBoard(b), slices.Clone(in.sacks)
	for _, call := range boardCalls() {
		want := modelTold(call, b, in)
		for range 2 {
			got := call.call(b, in)
			if !sameTold(got, want) {
				t.Fatalf("%s(%s, %s): %s, not %s", call.name, shortly(b), shortly(in), shortly(got), shortly(want))
			}
			if got.code == impl.OK {
				checkParts(t, got.board)
			}
		}
	}
	checkPipe(t, b)
	if !sameBoard(b, kept) || !slices.Equal(in.sacks, keptSacks) {
		t.Fatalf("%s has become %s", shortly(kept), shortly(b))
	}
}

func checkPipe(t *testing.T, b impl.Board) {
	t.Helper()
	want := int64(-1)
	if modelValidBoard(b) {
		want = sumOf(b, func(p impl.Piece) bool { return !p.Sacked && !p.Lost })
		checkParts(t, b)
	}
	for range 2 {
		if pipe := impl.BoardPipe(b); pipe != want {
			t.Errorf("BoardPipe(%s): %d, not %d", shortly(b), pipe, want)
		}
	}
}

// checkRefused asks that all calls refuse a board, whatever else they are given.
func checkRefused(t *testing.T, b impl.Board) {
	t.Helper()
	for _, in := range []boardIn{
		{n: 1, at: 1, ack: b.Una, most: 1}, {n: 1, at: 1, ack: b.Nxt, most: 1}, {n: 0, at: -1, ack: -1, most: 0},
		{n: mostSend, at: lastTime, ack: 12, most: mostSend, sacks: stretches("10-12", "0-5", "1-2")},
	} {
		for _, call := range boardCalls() {
			if got := call.call(b, in); !sameTold(got, boardTold{code: impl.ErrForm}) {
				t.Errorf("%s(%s, %s): %s, not ErrForm", call.name, shortly(b), shortly(in), shortly(got))
			}
		}
	}
	if pipe := impl.BoardPipe(b); pipe != -1 || modelValidBoard(b) {
		t.Errorf("BoardPipe(%s): %d, not -1", shortly(b), pipe)
	}
}

// checkTold holds what one call answers against what is written down.
func checkTold(t *testing.T, name string, b impl.Board, in boardIn, want boardTold) {
	t.Helper()
	for _, call := range boardCalls() {
		if call.name != name {
			continue
		}
		if got := call.call(b, in); !sameTold(got, want) {
			t.Errorf("%s(%s, %s): %s, not %s", name, shortly(b), shortly(in), shortly(got), shortly(want))
		}
	}
	checkBoard(t, b, in)
}

func TestBoardLimits(t *testing.T) {
	if impl.MaxPlace != 1099511627776 || impl.MaxPieces != 4096 || impl.DupThresh != 3 || impl.MaxSacks != 3 {
		t.Error(impl.MaxPlace, impl.MaxPieces, impl.DupThresh, impl.MaxSacks)
	}
}

func TestBoardSend(t *testing.T) {
	for _, una := range []int64{0, 10, lastPlace - mostSend - 12} {
		for _, ahead := range []string{"", "5@3", "5Sx7@9 7L"} {
			for _, n := range []int64{1, 2, mostSend - 1, mostSend} {
				for _, at := range []int64{0, 1, lastTime} {
					want := boardAt(una, fmt.Sprintf("%s %d@%d", ahead, n, at))
					checkTold(t, "BoardSend", boardAt(una, ahead), boardIn{n: n, at: at}, boardTold{board: want})
				}
			}
		}
	}
}

func TestBoardSendRefusesNumbers(t *testing.T) {
	b := boardAt(3, "5 5")
	for _, n := range aboutEnds(0, mostSend) {
		if n < 1 || n > mostSend {
			checkTold(t, "BoardSend", b, boardIn{n: n, at: 5}, boardTold{code: impl.ErrForm})
		}
	}
	for _, at := range aboutEnds(0, lastTime) {
		if !within(at, lastTime) {
			checkTold(t, "BoardSend", b, boardIn{n: 5, at: at}, boardTold{code: impl.ErrForm})
			checkTold(t, "BoardSend", impl.Board{}, boardIn{n: 5, at: at}, boardTold{code: impl.ErrForm})
		}
	}
}

// The last piece may end at the last place, and there may be MaxPieces of them; what is not valid is told ahead of that.
func TestBoardIsFull(t *testing.T) {
	for _, n := range []int64{1, 2, 1000, mostSend} {
		empty, some := boardAt(lastPlace-n, ""), boardAt(lastPlace-n-9, "5 4S")
		checkTold(t, "BoardSend", empty, boardIn{n: n}, boardTold{board: boardAt(lastPlace-n, fmt.Sprint(n))})
		checkTold(t, "BoardSend", some, boardIn{n: n}, boardTold{board: boardAt(lastPlace-n-9, fmt.Sprintf("5 4S %d", n))})
		if n < mostSend {
			checkTold(t, "BoardSend", empty, boardIn{n: n + 1}, boardTold{code: impl.ErrFull})
			checkTold(t, "BoardSend", some, boardIn{n: n + 1}, boardTold{code: impl.ErrFull})
		}
		checkTold(t, "BoardSend", boardAt(lastPlace, ""), boardIn{n: n}, boardTold{code: impl.ErrFull})
		checkTold(t, "BoardSend", boardAt(0, "1099511627776L"), boardIn{n: n}, boardTold{code: impl.ErrFull})
	}
	all := boardAt(7, likePieces(mostPieces, "2"))
	lacking := boardAt(7, likePieces(mostPieces-1, "2"))
	checkTold(t, "BoardSend", lacking, boardIn{n: 2}, boardTold{board: all})
	checkTold(t, "BoardSend", all, boardIn{n: 2}, boardTold{code: impl.ErrFull})
	checkTold(t, "BoardSend", all, boardIn{n: 1, at: lastTime}, boardTold{code: impl.ErrFull})
	for _, b := range []impl.Board{all, boardAt(lastPlace, ""), boardAt(lastPlace-2*mostPieces, likePieces(mostPieces, "2"))} {
		checkTold(t, "BoardSend", b, boardIn{n: 0}, boardTold{code: impl.ErrForm})
		checkTold(t, "BoardSend", b, boardIn{n: mostSend + 1}, boardTold{code: impl.ErrForm})
		checkTold(t, "BoardSend", b, boardIn{n: 1, at: -1}, boardTold{code: impl.ErrForm})
		checkTold(t, "BoardSend", b, boardIn{n: math.MaxInt64, at: lastTime + 1}, boardTold{code: impl.ErrForm})
		checkTold(t, "BoardSend", b, boardIn{n: 1}, boardTold{code: impl.ErrFull})
	}
}

// illBoards have each one fault or more.
func illBoards() []impl.Board {
	list := []impl.Board{
		// Without pieces, Una is Nxt.
		{Una: 1}, {Nxt: 1}, {Una: 4, Nxt: 5}, {Una: 5, Nxt: 4}, {Una: -1, Nxt: -1}, {Una: -1}, {Una: -1, Nxt: 1}, {Nxt: -1},
		{Una: lastPlace + 1, Nxt: lastPlace + 1}, {Una: lastPlace, Nxt: lastPlace + 1}, {Nxt: lastPlace}, {Nxt: lastPlace + 1},
		{Una: math.MinInt64, Nxt: math.MinInt64}, {Una: math.MaxInt64, Nxt: math.MaxInt64},
		{Una: math.MinInt64, Nxt: math.MaxInt64}, {Una: math.MaxInt64, Nxt: math.MinInt64}, {Una: math.MinInt64}, {Nxt: math.MaxInt64},
		// With pieces out of the range of places.
		boardAt(-1, "1"), boardAt(-1, "5 5"), boardAt(-5, "5 5"), boardAt(lastPlace-5, "6"), boardAt(lastPlace-5, "5 1"),
		boardAt(lastPlace, "1"), boardAt(lastPlace+1, "1"), boardAt(0, "1099511627777"), boardAt(math.MinInt64, "5"),
		boardAt(math.MaxInt64-5, "5"), boardAt(0, likePieces(mostPieces+1, "1")), boardAt(0, likePieces(2*mostPieces, "1")),
		// A piece of no byte, and of less.
		boardAt(10, "0"), boardAt(10, "5 0"), boardAt(10, "0 5"), boardAt(10, "5 0 5"), boardAt(10, "-1"), boardAt(10, "5 -1"),
		boardAt(10, "-1 5"), boardAt(10, "5 -5"), boardAt(10, "5 -5 5"),
	}
	for _, word := range []string{
		"5@-1", "5@1000000001", "5x0", "5x-1", "5x1000001", "5x9223372036854775807", "5x-9223372036854775808",
		"5@9223372036854775807", "5@-9223372036854775808", "5L@-1", "5Sx0",
	} {
		list = append(list, boardAt(10, word), boardAt(10, word+" 5 5"), boardAt(10, "5 "+word+" 5"), boardAt(10, "5 5 "+word))
	}
	for i := range 3 {
		for _, d := range []int64{-1, 1} {
			list = append(list, movedPiece(i, d, 0), movedPiece(i, 0, d))
		}
		both := boardAt(10, "5 5 5")
		both.Pieces[i].Sacked, both.Pieces[i].Lost = true, true
		list = append(list, both)
	}
	for _, d := range []int64{-1, 1, -10, 10, math.MinInt64 + 20, math.MaxInt64 - 30} {
		una, nxt := boardAt(10, "5 5 5"), boardAt(10, "5 5 5")
		una.Una += d
		nxt.Nxt += d
		list = append(list, una, nxt)
	}
	turned := boardAt(10, "5 5 5")
	slices.Reverse(turned.Pieces)
	gone := boardAt(10, "5 5 5")
	gone.Pieces = nil
	far := boardAt(10, "5 5")
	far.Pieces[0].To, far.Pieces[1].From = math.MaxInt64, math.MaxInt64
	near := boardAt(10, "5 5")
	near.Pieces[0].To, near.Pieces[1].From = math.MinInt64, math.MinInt64
	return append(list, turned, gone, far, near)
}

// movedPiece has three pieces, one of which begins or ends elsewhere than its neighbour or the board does: a gap, an
// overlap, or an end of the board that is missed.
func movedPiece(i int, from, to int64) impl.Board {
	b := boardAt(10, "5 5 5")
	b.Pieces[i].From += from
	b.Pieces[i].To += to
	return b
}

func TestBoardThatIsNotValid(t *testing.T) {
	for _, b := range illBoards() {
		checkRefused(t, b)
	}
}

func TestBoardThatIsJustValid(t *testing.T) {
	for _, b := range []impl.Board{
		{}, {Una: 1, Nxt: 1}, {Una: lastPlace, Nxt: lastPlace}, {Pieces: []impl.Piece{}}, boardAt(0, "1"), boardAt(0, "1099511627776"),
		boardAt(lastPlace-1, "1"), boardAt(lastPlace-10, "5 5S"), boardAt(0, "1 1099511627774L 1S"),
		boardAt(10, "5@0 5@1 5@999999999 5@1000000000"), boardAt(10, "5x1 5x2 5x999999 5x1000000"), boardAt(10, "5S 5L 5"),
		boardAt(0, likePieces(mostPieces, "1")), boardAt(lastPlace-mostPieces, likePieces(mostPieces, "1S")),
		boardAt(0, likePieces(mostPieces, "268435456L")), boardAt(0, likePieces(mostPieces-1, "65535x2")),
	} {
		if !modelValidBoard(b) || impl.BoardPipe(b) < 0 {
			t.Errorf("%s is refused", shortly(b))
		}
		checkBoard(t, b, boardIn{n: 1, at: 7, ack: b.Una, most: mostSend})
		checkBoard(t, b, boardIn{n: mostSend, at: lastTime, ack: b.Nxt, most: 1, sacks: []impl.Stretch{{From: b.Una, To: b.Nxt}}})
		checkBoard(t, b, boardIn{n: 77, at: 0, ack: b.Una, most: 1000, sacks: []impl.Stretch{{From: b.Una, To: b.Nxt}}})
	}
}

func TestBoardAck(t *testing.T) {
	b := boardAt(10, "5@1 5L@2 5Sx2@3")
	for ack, want := range map[int64]struct {
		left   string
		sample int64
	}{
		10: {"5@1 5L@2 5Sx2@3", -1}, 11: {"4@1 5L@2 5Sx2@3", -1}, 14: {"1@1 5L@2 5Sx2@3", -1}, 15: {"5L@2 5Sx2@3", 1},
		16: {"4L@2 5Sx2@3", 1}, 19: {"1L@2 5Sx2@3", 1}, 20: {"5Sx2@3", 2}, 21: {"4Sx2@3", 2}, 24: {"1Sx2@3", 2}, 25: {"", 2},
	} {
		checkTold(t, "BoardAck", b, boardIn{ack: ack}, boardTold{
			board: boardAt(ack, want.left), news: impl.BoardNews{Acked: ack - 10, Sample: want.sample},
		})
	}
	for _, ack := range aboutEnds(10, 25) {
		if ack < 10 || ack > 25 {
			checkTold(t, "BoardAck", b, boardIn{ack: ack}, boardTold{code: impl.ErrForm})
			checkTold(t, "BoardAck", b, boardIn{ack: ack, sacks: stretches("10-25")}, boardTold{code: impl.ErrForm})
		}
	}
	checkTold(t, "BoardAck", boardAt(7, ""), boardIn{ack: 7}, boardTold{board: boardAt(7, ""), news: impl.BoardNews{Sample: -1}})
	checkTold(t, "BoardAck", boardAt(7, ""), boardIn{ack: 6}, boardTold{code: impl.ErrForm})
	checkTold(t, "BoardAck", boardAt(7, ""), boardIn{ack: 8}, boardTold{code: impl.ErrForm})
	great := boardAt(0, "1099511627775@4 1@5")
	checkTold(t, "BoardAck", great, boardIn{ack: lastPlace - 1}, boardTold{
		board: boardAt(lastPlace-1, "1@5"), news: impl.BoardNews{Acked: lastPlace - 1, Sample: 4},
	})
	checkTold(t, "BoardAck", great, boardIn{ack: lastPlace}, boardTold{
		board: boardAt(lastPlace, ""), news: impl.BoardNews{Acked: lastPlace, Sample: 5},
	})
}

// The last one of those that are gone measures, if it was sent once and has not been told to be there.
func TestBoardSample(t *testing.T) {
	for text, want := range map[string]int64{
		"": -1, "5@0": 0, "5@7": 7, "5L@7": 7, "5S@7": -1, "5x2@7": -1, "5Lx2@7": -1, "5Sx2@7": -1, "5x1000000@7": -1,
		"5@7 5@9": 9, "5@9 5@7": 7, "5@7 5x2@9": 7, "5@7 5S@9": 7, "5@7 5L@9": 9, "5x2@7 5@9": 9, "5S@7 5@9": 9,
		"5x2@7 5S@9": -1, "5@1 5S@2 5x3@3 5@4 5S@5 5x2@6": 4, "5@1000000000 5S@2": lastTime, "5@0 5S@2": 0,
	} {
		whole := boardAt(100, text)
		news := impl.BoardNews{Acked: whole.Nxt - 100, Sample: want}
		checkTold(t, "BoardAck", whole, boardIn{ack: whole.Nxt}, boardTold{board: boardAt(whole.Nxt, ""), news: news})
		// One that stays measures nothing, nor does one that is only cut.
		longer := boardAt(100, text+" 5@55")
		checkTold(t, "BoardAck", longer, boardIn{ack: whole.Nxt}, boardTold{board: boardAt(whole.Nxt, "5@55"), news: news})
		news.Acked += 4
		checkTold(t, "BoardAck", longer, boardIn{ack: whole.Nxt + 4}, boardTold{board: boardAt(whole.Nxt+4, "1@55"), news: news})
	}
	// What becomes Sacked by the same call is not gone, and what is gone is not made Sacked ahead of measuring.
	checkTold(t, "BoardAck", boardAt(0, "5@3 5@4"), boardIn{ack: 5, sacks: stretches("5-10", "0-10", "0-5")}, boardTold{
		board: boardAt(5, "5S@4"), news: impl.BoardNews{Acked: 5, Sacked: 5, Sample: 3},
	})
}

// Which stretches count, and what they hold, with 14 acknowledged of pieces from 10 to 16, 20, 25 and 30.
func TestBoardStretches(t *testing.T) {
	b := boardAt(10, "6@1 4L@2 5x2@3 5S@4")
	for _, c := range []struct {
		told  []impl.Stretch
		want  string
		bytes int64
	}{
		{nil, "2@1 4L@2 5x2@3 5S@4", 0},
		{stretches("14-30"), "2S@1 4S@2 5Sx2@3 5S@4", 11},
		{stretches("13-30"), "2@1 4L@2 5x2@3 5S@4", 0},
		{stretches("15-30"), "2@1 4S@2 5Sx2@3 5S@4", 9},
		{stretches("14-29"), "2S@1 4S@2 5Sx2@3 5S@4", 11},
		{stretches("14-31"), "2@1 4L@2 5x2@3 5S@4", 0},
		{stretches("14-16"), "2S@1 4L@2 5x2@3 5S@4", 2},
		{stretches("14-15"), "2@1 4L@2 5x2@3 5S@4", 0},
		{stretches("15-16"), "2@1 4L@2 5x2@3 5S@4", 0},
		{stretches("10-16"), "2@1 4L@2 5x2@3 5S@4", 0},
		{stretches("16-20"), "2@1 4S@2 5x2@3 5S@4", 4},
		{stretches("17-20"), "2@1 4L@2 5x2@3 5S@4", 0},
		{stretches("16-19"), "2@1 4L@2 5x2@3 5S@4", 0},
		{stretches("15-21"), "2@1 4S@2 5x2@3 5S@4", 4},
		{stretches("16-24"), "2@1 4S@2 5x2@3 5S@4", 4},
		{stretches("17-25"), "2@1 4L@2 5Sx2@3 5S@4", 5},
		{stretches("14-14"), "2@1 4L@2 5x2@3 5S@4", 0},
		{stretches("16-16"), "2@1 4L@2 5x2@3 5S@4", 0},
		{stretches("20-16"), "2@1 4L@2 5x2@3 5S@4", 0},
		{stretches("30-14"), "2@1 4L@2 5x2@3 5S@4", 0},
		{stretches("30-30"), "2@1 4L@2 5x2@3 5S@4", 0},
		{stretches("25-30"), "2@1 4L@2 5x2@3 5S@4", 0},
		{stretches("20-30"), "2@1 4L@2 5Sx2@3 5S@4", 5},
		{stretches("20-31"), "2@1 4L@2 5x2@3 5S@4", 0},
		// Two hold a piece only together; one of several holds it, in whatever order.
		{stretches("16-18", "18-20"), "2@1 4L@2 5x2@3 5S@4", 0},
		{stretches("16-19", "17-20"), "2@1 4L@2 5x2@3 5S@4", 0},
		{stretches("16-18", "16-20", "18-20"), "2@1 4S@2 5x2@3 5S@4", 4},
		{stretches("20-25", "14-16", "16-20"), "2S@1 4S@2 5Sx2@3 5S@4", 11},
		{stretches("14-20", "16-25", "14-30"), "2S@1 4S@2 5Sx2@3 5S@4", 11},
		{stretches("13-30", "14-31", "16-20"), "2@1 4S@2 5x2@3 5S@4", 4},
		{stretches("16-20", "20-16", "0-0"), "2@1 4S@2 5x2@3 5S@4", 4},
		{[]impl.Stretch{{From: math.MinInt64, To: math.MaxInt64}}, "2@1 4L@2 5x2@3 5S@4", 0},
		{[]impl.Stretch{{From: 14, To: math.MaxInt64}}, "2@1 4L@2 5x2@3 5S@4", 0},
		{[]impl.Stretch{{From: math.MinInt64, To: 30}}, "2@1 4L@2 5x2@3 5S@4", 0},
		{[]impl.Stretch{{From: math.MaxInt64, To: math.MinInt64}, {From: 14, To: 30}}, "2S@1 4S@2 5Sx2@3 5S@4", 11},
	} {
		checkTold(t, "BoardAck", b, boardIn{ack: 14, sacks: c.told}, boardTold{
			board: boardAt(14, c.want), news: impl.BoardNews{Acked: 4, Sacked: c.bytes, Sample: -1},
		})
	}
	for _, told := range [][]impl.Stretch{
		stretches("14-30", "14-30", "14-30", "14-30"), stretches("0-0", "0-0", "0-0", "0-0"), make([]impl.Stretch, 100000),
	} {
		for _, ack := range []int64{9, 10, 14, 30, 31} {
			checkTold(t, "BoardAck", b, boardIn{ack: ack, sacks: told}, boardTold{code: impl.ErrForm})
		}
	}
	checkTold(t, "BoardAck", boardAt(10, ""), boardIn{ack: 10, sacks: stretches("10-11", "10-10", "9-10")}, boardTold{
		board: boardAt(10, ""), news: impl.BoardNews{Sample: -1},
	})
}

// All acknowledgements of small boards, with all stretches about them.
func TestBoardStretchesAround(t *testing.T) {
	for _, text := range []string{"", "1", "3", "2L 1S 2", "1 2x2 1 1L", "3S 3", "4Lx9 2Sx2"} {
		b := boardAt(5, text)
		for ack := int64(4); ack <= b.Nxt+1; ack++ {
			for from := int64(3); from <= b.Nxt+2; from++ {
				for to := int64(3); to <= b.Nxt+2; to++ {
					sacks := []impl.Stretch{{From: from, To: to}}
					checkBoard(t, b, boardIn{n: 1, ack: ack, most: 1, sacks: sacks})
					checkBoard(t, b, boardIn{n: 1, ack: ack, most: 2, sacks: append(sacks, impl.Stretch{From: to, To: from}, impl.Stretch{From: 6, To: 8})})
				}
			}
		}
	}
}

func TestBoardLose(t *testing.T) {
	for _, c := range []struct {
		from, to string
		bytes    int64
	}{
		{"", "", 0}, {"5", "5", 0}, {"5 1S 1S", "5 1S 1S", 0}, {"5 1S 1S 1S", "5L 1S 1S 1S", 5}, {"5 1S 1S 1S 1S", "5L 1S 1S 1S 1S", 5},
		{"1S 1S 1S 5", "1S 1S 1S 5", 0}, {"1S 5 1S 1S", "1S 5 1S 1S", 0}, {"1S 1S 5 1S", "1S 1S 5 1S", 0},
		{"1S 5 1S 1S 1S", "1S 5L 1S 1S 1S", 5}, {"1S 1S 1S 5 1S 1S", "1S 1S 1S 5 1S 1S", 0},
		// Each piece has its own behind it.
		{"3 4 1S 5 1S 6 1S 7", "3L 4L 1S 5 1S 6 1S 7", 7}, {"3 1S 4 1S 5 1S 6 1S 7", "3L 1S 4L 1S 5 1S 6 1S 7", 7},
		{"3 1S 1S 1S 1S 4", "3L 1S 1S 1S 1S 4", 3},
		// Pieces are counted, not bytes; lost ones do not count.
		{"5 9000S 9000S", "5 9000S 9000S", 0}, {"5 1S 1L 1S 1L 1S", "5L 1S 1L 1S 1L 1S", 5}, {"5 1S 1L 1S 1L", "5 1S 1L 1S 1L", 0},
		{"5 1L 1L 1L 1L", "5 1L 1L 1L 1L", 0},
		// One that was sent twice stays, and counts as any if it is Sacked; one that is Lost is not told again.
		{"5x2 1S 1S 1S", "5x2 1S 1S 1S", 0}, {"5x1000000 1S 1S 1S", "5x1000000 1S 1S 1S", 0}, {"5L 1S 1S 1S", "5L 1S 1S 1S", 0},
		{"5Lx2 1S 1S 1S", "5Lx2 1S 1S 1S", 0}, {"5 1S 1Sx2 1S", "5L 1S 1Sx2 1S", 5}, {"5 4x2 3 1Sx2 1Sx3 1S", "5L 4x2 3L 1Sx2 1Sx3 1S", 8},
		{"5S 1S 1S 1S", "5S 1S 1S 1S", 0}, {"5@9 1S@8 1S 1S@7", "5L@9 1S@8 1S 1S@7", 5},
	} {
		checkTold(t, "BoardLose", boardAt(10, c.from), boardIn{}, boardTold{board: boardAt(10, c.to), n: c.bytes})
		if next, n, code := impl.BoardLose(boardAt(10, c.to)); !sameBoard(next, boardAt(10, c.to)) || n != 0 || code != impl.OK {
			t.Errorf("again, %s: %s, %d, %d", c.to, shortly(next), n, code)
		}
	}
	many, lost := boardAt(0, likePieces(mostPieces-3, "2")+"1S 1S 1S"), boardAt(0, likePieces(mostPieces-3, "2L")+"1S 1S 1S")
	checkTold(t, "BoardLose", many, boardIn{}, boardTold{board: lost, n: 2 * (mostPieces - 3)})
	checkTold(t, "BoardLose", boardAt(0, "1099511627773 1S 1S 1S"), boardIn{}, boardTold{
		board: boardAt(0, "1099511627773L 1S 1S 1S"), n: lastPlace - 3,
	})
}

func TestBoardFirst(t *testing.T) {
	for _, c := range []struct {
		from, to string
		bytes    int64
	}{
		{"", "", 0}, {"5@9", "5L@9", 5}, {"5L", "5L", 0}, {"5S", "5S", 0}, {"5 6", "5L 6", 5}, {"5L 6", "5L 6", 0}, {"5S 6", "5S 6", 0},
		{"5 6S 7L 8", "5L 6S 7L 8", 5}, {"5x2@3", "5Lx2@3", 5}, {"5x1000000 6", "5Lx1000000 6", 5}, {"5Lx2 6", "5Lx2 6", 0},
		{"5Sx2 6", "5Sx2 6", 0}, {"1099511627766", "1099511627766L", lastPlace - 10},
	} {
		checkTold(t, "BoardFirst", boardAt(10, c.from), boardIn{}, boardTold{board: boardAt(10, c.to), n: c.bytes})
	}
}

func TestBoardTimeout(t *testing.T) {
	for from, to := range map[string]string{
		"": "", "5": "5L", "5S": "5L", "5L": "5L", "5@3 6S@4 7L@5 8x2@6 9Sx3@7 1Lx4@8": "5L@3 6L@4 7L@5 8Lx2@6 9Lx3@7 1Lx4@8",
		likePieces(mostPieces, "2Sx1000000@1000000000"): likePieces(mostPieces, "2Lx1000000@1000000000"),
	} {
		checkTold(t, "BoardTimeout", boardAt(10, from), boardIn{}, boardTold{board: boardAt(10, to)})
	}
}

func TestBoardAgain(t *testing.T) {
	for _, c := range []struct {
		from, to string
		place    int
	}{
		{"5L", "5x2@77", 0}, {"5Lx2@9 6", "5x3@77 6", 0}, {"5 6L 7", "5 6x2@77 7", 1}, {"5 6S 7L", "5 6S 7x2@77", 2},
		{"5L 6L 7L", "5x2@77 6L 7L", 0}, {"5 6L 7L", "5 6x2@77 7L", 1}, {"5x2@80 6L@90 7S", "5x2@80 6x2@77 7S", 1},
		{"5Lx999999", "5x1000000@77", 0}, {"5Lx1000000", "5x1000000@77", 0}, {"5Lx999998", "5x999999@77", 0},
		{"5L@1000000000", "5x2@77", 0}, {"5x1000000 6Lx1000000@3 7L", "5x1000000 6x1000000@77 7L", 1},
	} {
		want := boardAt(10, c.to)
		checkTold(t, "BoardAgain", boardAt(10, c.from), boardIn{at: 77}, boardTold{board: want, piece: want.Pieces[c.place]})
	}
	checkTold(t, "BoardAgain", boardAt(10, "5L"), boardIn{at: 0}, boardTold{
		board: boardAt(10, "5x2"), piece: impl.Piece{From: 10, To: 15, Times: 2},
	})
	checkTold(t, "BoardAgain", boardAt(10, "5L"), boardIn{at: lastTime}, boardTold{
		board: boardAt(10, "5x2@1000000000"), piece: impl.Piece{From: 10, To: 15, At: lastTime, Times: 2},
	})
	for _, text := range []string{"", "5", "5S", "5 6S 7x2", likePieces(mostPieces, "1S")} {
		checkTold(t, "BoardAgain", boardAt(10, text), boardIn{at: 77}, boardTold{code: impl.ErrState})
		checkTold(t, "BoardAgain", boardAt(10, text), boardIn{at: -1}, boardTold{code: impl.ErrForm})
	}
	for _, at := range aboutEnds(0, lastTime) {
		if !within(at, lastTime) {
			checkTold(t, "BoardAgain", boardAt(10, "5L"), boardIn{at: at}, boardTold{code: impl.ErrForm})
			checkTold(t, "BoardAgain", boardAt(10, "5S"), boardIn{at: at}, boardTold{code: impl.ErrForm})
		}
	}
}

func TestBoardSplit(t *testing.T) {
	for _, c := range []struct {
		from string
		most int64
		to   string
	}{
		{"", 1, ""}, {"", mostSend, ""}, {"1", 1, "1"}, {"2", 1, "1 1"}, {"4", 5, "4"}, {"5", 5, "5"}, {"6", 5, "5 1"}, {"9", 5, "5 4"},
		{"10", 5, "5 5"}, {"11", 5, "5 5 1"}, {"15", 5, "5 5 5"}, {"3 7S@4 5 12Lx9@5", 5, "3 5S@4 2S@4 5 5Lx9@5 5Lx9@5 2Lx9@5"},
		{"65535", mostSend, "65535"}, {"65536", mostSend, "65535 1"}, {"131070", mostSend, "65535 65535"},
		{"131071S", mostSend, "65535S 65535S 1S"}, {"65535", mostSend - 1, "65534 1"}, {"5L 5S", 3, "3L 2L 3S 2S"},
		{"65535L", 1, ""}, {"4096Sx3@1", 1, likePieces(mostPieces, "1Sx3@1")}, {"4097", 1, ""}, {"4095 1", 1, likePieces(mostPieces, "1")},
		{"1 4096", 1, ""}, {"8192", 2, likePieces(mostPieces, "2")}, {"8191", 2, likePieces(mostPieces-1, "2") + "1"}, {"8193", 2, ""},
		{likePieces(mostPieces, "5"), 5, likePieces(mostPieces, "5")}, {likePieces(mostPieces-1, "5") + "6", 5, ""},
		{likePieces(mostPieces-1, "5"), 5, likePieces(mostPieces-1, "5")},
		{likePieces(mostPieces-2, "5") + "6", 5, likePieces(mostPieces-2, "5") + "5 1"}, {likePieces(mostPieces-2, "5") + "6 6", 5, ""},
		{"6 " + likePieces(mostPieces-2, "5"), 5, "5 1 " + likePieces(mostPieces-2, "5")}, {"1099511627766", mostSend, ""},
		// So many that they cannot be made ahead of counting.
		{"1099511627766", 1, ""}, {"1 1099511627764 1", 2, ""}, {likePieces(mostPieces, "268435400"), 1, ""},
	} {
		want := boardTold{board: boardAt(10, c.to)}
		if c.to == "" && c.from != "" {
			want = boardTold{code: impl.ErrFull}
		}
		checkTold(t, "BoardSplit", boardAt(10, c.from), boardIn{most: c.most}, want)
	}
	for _, most := range aboutEnds(0, mostSend) {
		if most < 1 || most > mostSend {
			for _, text := range []string{"", "5", "4097", "1099511627766", likePieces(mostPieces, "5")} {
				checkTold(t, "BoardSplit", boardAt(10, text), boardIn{most: most}, boardTold{code: impl.ErrForm})
			}
		}
	}
}

// The bytes that are on the way are those of no mark.
func TestBoardPipe(t *testing.T) {
	for text, want := range map[string]int64{
		"": 0, "5": 5, "5S": 0, "5L": 0, "5x2": 5, "5 6S 7L 8x3": 13, "5S 6L": 0, "5 6": 11, "1099511627766": lastPlace - 10,
		"1 1099511627764L 1": 2, likePieces(mostPieces, "268435400"): 268435400 * mostPieces,
	} {
		for range 2 {
			if pipe := impl.BoardPipe(boardAt(10, text)); pipe != want {
				t.Errorf("%.60s: %d on the way, not %d", text, pipe, want)
			}
		}
		checkParts(t, boardAt(10, text))
	}
}

// One number at a time goes through all its ends, and those about a board's own.
func TestBoardEnds(t *testing.T) {
	for _, text := range []string{"", "5", "5L 6S 7 8x2 1S 1S", "1S 2Lx1000000@1000000000"} {
		for _, una := range []int64{0, 10, lastPlace - 28} {
			b := boardAt(una, text)
			in := boardIn{n: 3, at: 4, ack: una, most: 2, sacks: []impl.Stretch{{From: una, To: b.Nxt}}}
			for _, n := range aboutEnds(0, 1, 5, mostSend, una, b.Nxt, lastTime, lastPlace, lastPlace-b.Nxt) {
				sent, at, ack, most, from, to := in, in, in, in, in, in
				sent.n, at.at, ack.ack, most.most = n, n, n, n
				from.sacks = []impl.Stretch{{From: n, To: b.Nxt}}
				to.sacks = []impl.Stretch{{From: una, To: n}}
				for _, one := range []boardIn{sent, at, ack, most, from, to} {
					checkBoard(t, b, one)
				}
				checkFieldEnds(t, b, n, in)
			}
		}
	}
}

// checkFieldEnds gives each number of a board in turn another value.
func checkFieldEnds(t *testing.T, b impl.Board, n int64, in boardIn) {
	t.Helper()
	una, nxt := cloneBoard(b), cloneBoard(b)
	una.Una, nxt.Nxt = n, n
	boards := []impl.Board{una, nxt}
	for i := range b.Pieces {
		from, to, at, times := cloneBoard(b), cloneBoard(b), cloneBoard(b), cloneBoard(b)
		from.Pieces[i].From, to.Pieces[i].To, at.Pieces[i].At, times.Pieces[i].Times = n, n, n, n
		boards = append(boards, from, to, at, times)
	}
	for _, other := range boards {
		checkBoard(t, other, in)
	}
}

// Of several faults a board's or a number's is told first; only then that there is no room, or nothing lost.
func TestBoardSeveralErrors(t *testing.T) {
	full, ill := boardAt(0, likePieces(mostPieces, "2")), boardAt(0, likePieces(mostPieces, "2"))
	ill.Pieces[mostPieces-1].Times = 0
	good := boardIn{n: 1, at: 1, ack: 0, most: 1}
	bad := boardIn{n: mostSend + 1, at: lastTime + 1, ack: -1, most: 0, sacks: make([]impl.Stretch, 4)}
	for choice := range 4 {
		b, in := full, good
		if choice&1 != 0 {
			b = ill
		}
		if choice&2 != 0 {
			in = bad
		}
		for name, code := range map[string]int64{
			"BoardSend": impl.ErrFull, "BoardAgain": impl.ErrState, "BoardSplit": impl.ErrFull,
		} {
			if choice > 0 {
				code = impl.ErrForm
			}
			checkTold(t, name, b, in, boardTold{code: code})
		}
	}
	checkTold(t, "BoardAck", full, bad, boardTold{code: impl.ErrForm})
	checkTold(t, "BoardAck", ill, good, boardTold{code: impl.ErrForm})
	checkTold(t, "BoardAck", full, boardIn{ack: 0, sacks: make([]impl.Stretch, 4)}, boardTold{code: impl.ErrForm})
	checkTold(t, "BoardAck", full, boardIn{ack: -1, sacks: make([]impl.Stretch, 3)}, boardTold{code: impl.ErrForm})
}

// All boards of up to five pieces, with all marks, sent once and twice.
func TestBoardSmallOnes(t *testing.T) {
	kinds := []string{"", "S", "L", "x2", "Sx2", "Lx2"}
	in := boardIn{n: 2, at: 50, ack: 7, most: 2}
	var grow func(text string, pieces int)
	grow = func(text string, pieces int) {
		b := boardAt(4, text)
		in.ack = min(7, b.Nxt)
		in.sacks = []impl.Stretch{{From: 8, To: b.Nxt}, {From: in.ack, To: 11}}
		checkBoard(t, b, in)
		if pieces == 5 {
			return
		}
		for _, kind := range kinds {
			grow(fmt.Sprintf("%s %d%s@%d", text, 1+(pieces*2)%3, kind, pieces+1), pieces+1)
		}
	}
	grow("", 0)
}

func randomBoardIn(chance *rand.Rand, b impl.Board) boardIn {
	way := b.Nxt - b.Una
	in := boardIn{n: 1 + chance.Int63n(40), at: chance.Int63n(1000), ack: b.Una, most: 1 + chance.Int63n(40)}
	if chance.Intn(5) == 0 {
		in.ack += chance.Int63n(way/3 + 2)
	}
	edges := []int64{b.Una, b.Nxt, in.ack}
	for _, p := range b.Pieces {
		edges = append(edges, p.From)
	}
	for range chance.Intn(5) {
		from, to := edges[chance.Intn(len(edges))], edges[chance.Intn(len(edges))]
		if from > to && chance.Intn(8) > 0 {
			from, to = to, from
		}
		in.sacks = append(in.sacks, impl.Stretch{From: from + wobble(chance), To: to + wobble(chance)})
	}
	return in
}

// wobble is mostly 0.
func wobble(chance *rand.Rand) int64 {
	return max(chance.Int63n(12)-10, 0) - max(chance.Int63n(12)-10, 0)
}

// randomBoard is what comes of some calls, in a likely mixture.
func randomBoard(chance *rand.Rand, steps int, look func(name string, in boardIn, from, to boardTold)) impl.Board {
	now := boardTold{board: boardAt([]int64{0, 1000, lastPlace - 400}[chance.Intn(3)], "")}
	calls := boardCalls()
	for range steps {
		call := calls[[]int{0, 0, 0, 0, 0, 0, 0, 0, 1, 1, 1, 1, 2, 2, 2, 3, 4, 5, 5, 6}[chance.Intn(20)]]
		in := randomBoardIn(chance, now.board)
		next := call.call(now.board, in)
		look(call.name, in, now, next)
		if next.code == impl.OK {
			now = next
		}
	}
	return now.board
}

// P22: through all calls what is on the way, lost and sacked is together all from Una to Nxt, and what they tell is by
// how much these changed.
func TestBoardHoldsTogether(t *testing.T) {
	chance := newChance()
	changed := map[string]int{}
	for range 150 {
		randomBoard(chance, 80, func(name string, in boardIn, from, to boardTold) {
			checkBoard(t, from.board, in)
			if to.code != impl.OK {
				return
			}
			changed[name] += int(oneIf(!sameBoard(from.board, to.board)))
			checkNews(t, name, from.board, to)
		})
	}
	for _, call := range boardCalls() {
		if changed[call.name] < 20 {
			t.Errorf("only %d boards were changed by %s", changed[call.name], call.name)
		}
	}
}

func checkNews(t *testing.T, name string, from impl.Board, to boardTold) {
	t.Helper()
	sacked := func(p impl.Piece) bool { return p.Sacked }
	lost := func(p impl.Piece) bool { return p.Lost }
	way := impl.BoardPipe(to.board) - impl.BoardPipe(from)
	told := true
	switch name {
	case "BoardSend":
		told = way == to.board.Nxt-from.Nxt && to.board.Una == from.Una
	case "BoardAck":
		left := sumOf(from, sacked) - sumOf(to.board, sacked) + to.news.Sacked
		told = to.news.Acked == to.board.Una-from.Una && within(left, to.news.Acked) && to.board.Nxt == from.Nxt
	case "BoardLose", "BoardFirst":
		told = way == -to.n && sumOf(to.board, lost)-sumOf(from, lost) == to.n
	case "BoardTimeout":
		told = impl.BoardPipe(to.board) == 0 && sumOf(to.board, sacked) == 0
	case "BoardAgain":
		told = way == to.piece.To-to.piece.From && slices.Contains(to.board.Pieces, to.piece)
	case "BoardSplit":
		told = way == 0 && sumOf(to.board, lost) == sumOf(from, lost) && sumOf(to.board, sacked) == sumOf(from, sacked)
	}
	if !told {
		t.Errorf("%s of %s tells %s", name, shortly(from), shortly(to))
	}
}

// roomyBoard has the same pieces ahead of spare room, with pieces in it that are none of the board's.
func roomyBoard(b impl.Board) (impl.Board, []impl.Piece) {
	room := append(slices.Clone(b.Pieces), slices.Repeat([]impl.Piece{{From: 1, To: 2, At: 3, Times: 4, Sacked: true}}, 9)...)
	b.Pieces = room[:len(b.Pieces)]
	return b, room
}

// P51: a call answers the same again, leaves the board, its stretches and the room behind them as they are, and what it
// answers is nobody else's.
func TestBoardSharesNothing(t *testing.T) {
	chance := newChance()
	nothing := func(string, boardIn, boardTold, boardTold) {}
	for range 300 {
		from := randomBoard(chance, 30, nothing)
		in := randomBoardIn(chance, from)
		in.sacks = in.sacks[:min(len(in.sacks), 3)]
		for _, call := range boardCalls() {
			checkCallApart(t, call, from, in)
		}
		b, room := roomyBoard(from)
		kept := slices.Clone(room)
		if impl.BoardPipe(b) != impl.BoardPipe(from) || !slices.Equal(room, kept) {
			t.Fatalf("BoardPipe(%s) changes it", shortly(from))
		}
	}
}

func checkCallApart(t *testing.T, call boardCall, from impl.Board, in boardIn) {
	t.Helper()
	b, room := roomyBoard(from)
	kept := slices.Clone(room)
	told := append(slices.Clone(in.sacks), impl.Stretch{From: 3, To: 4}, impl.Stretch{From: 5, To: 6})
	keptTold := slices.Clone(told)
	in.sacks = told[:len(in.sacks)]
	first := call.call(b, in)
	want := first
	want.board = cloneBoard(first.board)
	second := call.call(b, in)
	if !sameTold(second, want) {
		t.Fatalf("%s(%s, %s): another answer the second time", call.name, shortly(from), shortly(in))
	}
	spoil(second.board.Pieces, impl.Piece{From: 7, To: 9})
	if !sameTold(first, want) || !slices.Equal(room, kept) || !slices.Equal(told, keptTold) {
		t.Fatalf("%s(%s, %s): an answer shares memory, or an argument was changed", call.name, shortly(from), shortly(in))
	}
	clear(room)
	if clear(told); !sameTold(first, want) {
		t.Fatalf("%s(%s, %s): an answer is in an argument's memory", call.name, shortly(from), shortly(in))
	}
}

// P51: calls at the same time on the same board answer the same.
func TestBoardAtTheSameTime(t *testing.T) {
	b := boardAt(5, "4 6S 3L 5x2 7 1S 1S 1S 9L")
	in := boardIn{n: 5, at: 6, ack: 12, most: 2, sacks: stretches("15-30", "12-15")}
	done := make(chan bool)
	for range 8 {
		go func() {
			same := true
			for range 50 {
				for _, call := range boardCalls() {
					same = same && sameTold(call.call(b, in), modelTold(call, b, in))
				}
			}
			done <- same && impl.BoardPipe(b) == 16
		}()
	}
	for range 8 {
		if !<-done {
			t.Error("another answer beside others")
		}
	}
}
