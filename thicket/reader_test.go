package thicket_test

import (
	"math/rand/v2"
	"slices"
	"strings"
	"sync"
	"testing"
	"unsafe"

	"thicket/api"
	"thicket/thicket"
)

const digits = "s <- p* p <- &d d d? d <- [0-9]"

func newReader(t *testing.T, text string) *thicket.Reader {
	t.Helper()
	r, errno := thicket.New(text)
	if r == nil || errno != api.OK {
		t.Fatalf("New(%.100q) = %v, %d", text, r, errno)
	}
	return r
}

func expectFeed(t *testing.T, r *thicket.Reader, piece string, want api.Errno) {
	t.Helper()
	if errno := r.Feed(piece); errno != want {
		t.Errorf("Feed(%.20q, %d bytes) = %d, want %d", piece, len(piece), errno, want)
	}
}

func expectAgain(t *testing.T, r *thicket.Reader, want api.Errno) {
	t.Helper()
	if errno := r.Again(); errno != want {
		t.Errorf("Again = %d, want %d", errno, want)
	}
}

// expectTaken: want is how many bytes End tells, or nothing.
func expectTaken(t *testing.T, r *thicket.Reader, want int) {
	t.Helper()
	taken, ok, errno := r.End()
	if taken != max(want, 0) || ok != (want != nothing) || errno != api.OK {
		t.Errorf("End = %d, %v, %d, want %d", taken, ok, errno, want)
	}
}

// expectTold: Nodes tells these, and tells them again.
func expectTold(t *testing.T, r *thicket.Reader, want []api.Node) {
	t.Helper()
	for range 2 {
		if nodes, errno := r.Nodes(); !slices.Equal(nodes, want) || errno != api.OK {
			t.Errorf("Nodes = %v, %d, want %v", nodes, errno, want)
		}
	}
}

// expectEnd: End tells what Match tells of the input, and Nodes what Tree tells.
func expectEnd(t *testing.T, r *thicket.Reader, text, input string) {
	t.Helper()
	want, ok, _ := thicket.Match(text, input)
	if !ok {
		want = nothing
	}
	expectTaken(t, r, want)
	expectEnded(t, r, text, input)
}

func expectEnded(t *testing.T, r *thicket.Reader, text, input string) {
	t.Helper()
	want, _ := thicket.Tree(text, input)
	expectTold(t, r, want)
}

// expectDone: an input that has ended is neither fed nor ended.
func expectDone(t *testing.T, r *thicket.Reader) {
	t.Helper()
	for _, piece := range []string{"", "1", strings.Repeat("1", api.MaxInput), strings.Repeat("1", api.MaxInput+1)} {
		expectFeed(t, r, piece, api.ErrDone)
	}
	if taken, ok, errno := r.End(); taken != 0 || ok || errno != api.ErrDone {
		t.Errorf("End = %d, %v, %d, want 0, false, ErrDone", taken, ok, errno)
	}
}

// expectOpen: of an input that has not ended there are no nodes, nor is there another one yet.
func expectOpen(t *testing.T, r *thicket.Reader) {
	t.Helper()
	if nodes, errno := r.Nodes(); nodes != nil || errno != api.ErrOpen {
		t.Errorf("Nodes = %v, %d, want none, ErrOpen", nodes, errno)
	}
	expectAgain(t, r, api.ErrOpen)
}

func TestReaderTellsWhatItReads(t *testing.T) {
	r := newReader(t, digits)
	for _, piece := range []string{"1", "23", "x"} {
		expectFeed(t, r, piece, api.OK)
	}
	expectTaken(t, r, 3)
	expectTold(t, r, []api.Node{{Rule: 0, From: 0, To: 3, Depth: 0}, {Rule: 1, From: 0, To: 2, Depth: 1}, {Rule: 2, From: 0, To: 1, Depth: 2}, {Rule: 2, From: 1, To: 2, Depth: 2}, {Rule: 1, From: 2, To: 3, Depth: 1}, {Rule: 2, From: 2, To: 3, Depth: 2}})
}

func TestReaderOfAnInputOfWhichNothingComes(t *testing.T) {
	r := newReader(t, "s <- d+ !. d <- [0-9]")
	expectFeed(t, r, "12x", api.OK)
	expectTaken(t, r, nothing)
	expectTold(t, r, nil)
	expectDone(t, r)
	expectAgain(t, r, api.OK)
	expectOpen(t, r)
}

func TestReaderBeginsWithAnEmptyInput(t *testing.T) {
	for _, text := range []string{digits, "s <- !.", "s <- .", "s <-", "s <- p p <- 'x'?"} {
		r := newReader(t, text)
		expectOpen(t, r)
		expectEnd(t, r, text, "")
	}
}

// What is asked out of turn is refused, and leaves the input as it is.
func TestReaderOutOfTurn(t *testing.T) {
	r := newReader(t, digits)
	for range 3 {
		expectOpen(t, r)
		expectFeed(t, r, "1", api.OK)
		expectOpen(t, r)
		expectFeed(t, r, "2x", api.OK)
		expectOpen(t, r)
		expectEnd(t, r, digits, "12x")
		expectDone(t, r)
		expectDone(t, r)
		expectEnded(t, r, digits, "12x")
		expectAgain(t, r, api.OK)
		expectAgain(t, r, api.ErrOpen)
	}
}

func TestReaderIsFedAsMuchAsThereMayBe(t *testing.T) {
	text := "s <- 'x'* 'y' 'z'*"
	whole := strings.Repeat("x", api.MaxInput-1) + "y"
	for _, pieces := range [][]string{{whole}, {whole[:api.MaxInput-1], "y"}, {"x", whole[1:]}, {"", whole, ""}, strings.Split(whole, "")} {
		r := newReader(t, text)
		for _, piece := range pieces {
			expectFeed(t, r, piece, api.OK)
		}
		expectFeed(t, r, "z", api.ErrFull)
		expectFeed(t, r, "", api.OK)
		expectFeed(t, r, whole, api.ErrFull)
		expectOpen(t, r)
		expectEnd(t, r, text, whole)
	}
}

// A piece that is too long is refused whole, and a shorter one behind it is taken.
func TestReaderRefusesPiecesWhole(t *testing.T) {
	text := "s <- 'x'* 'y'* 'z'*"
	for _, length := range []int{0, 1, api.MaxInput / 2, api.MaxInput - 1, api.MaxInput} {
		r := newReader(t, text)
		input, room := strings.Repeat("x", length), api.MaxInput-length
		expectFeed(t, r, input, api.OK)
		for _, over := range []int{1, 2, api.MaxInput, 1 << 20} {
			expectFeed(t, r, strings.Repeat("y", room+over), api.ErrFull)
		}
		expectFeed(t, r, strings.Repeat("z", room), api.OK)
		expectFeed(t, r, "z", api.ErrFull)
		expectEnd(t, r, text, input+strings.Repeat("z", room))
	}
	r := newReader(t, text)
	expectFeed(t, r, strings.Repeat("x", api.MaxInput+1), api.ErrFull)
	expectEnd(t, r, text, "")
}

// Nothing of the first input is left for the second: neither bytes, nor room that they took, nor what came of them.
func TestReaderReadsAgain(t *testing.T) {
	text := "s <- d+ !. / w d <- [0-9] w <- [a-z]+"
	r := newReader(t, text)
	full := strings.Repeat("7", api.MaxInput)
	for _, input := range []string{"12", "", "ab", full, "1", "?", full, "12a", "12", "z", "12", ""} {
		expectFeed(t, r, input, api.OK)
		expectEnd(t, r, text, input)
		expectAgain(t, r, api.OK)
		expectOpen(t, r)
	}
	expectFeed(t, r, full, api.OK)
	expectFeed(t, r, "7", api.ErrFull)
}

// cuts calls visit with the pieces that an input can be cut into.
func cuts(input string, pieces []string, visit func([]string)) {
	if input == "" {
		visit(pieces)
		return
	}
	for size := 1; size <= len(input); size++ {
		cuts(input[size:], append(pieces, input[:size]), visit)
	}
}

func TestReaderReadsAnInputHoweverItIsCut(t *testing.T) {
	texts := []string{digits, "s <- '12' w / '1' w <- '23' '\\n'? 'é'", "s <- (!'é' .)+", "s <- 'x'"}
	for _, text := range texts {
		r := newReader(t, text)
		for _, input := range []string{"", "1234x", "1223é", "12\n\x00é"} {
			cuts(input, nil, func(pieces []string) {
				for _, between := range []string{"", "none"} {
					expectFeed(t, r, "", api.OK)
					for _, piece := range pieces {
						expectFeed(t, r, piece, api.OK)
						if between == "none" {
							expectFeed(t, r, "", api.OK)
						}
					}
					expectEnd(t, r, text, input)
					expectAgain(t, r, api.OK)
				}
			})
		}
	}
}

// P2: a list is its owner's, with its spare room; neither later lists nor other inputs change it.
func TestNodesAreFreshLists(t *testing.T) {
	input := "123456789"
	r := newReader(t, digits)
	expectFeed(t, r, input, api.OK)
	expectTaken(t, r, len(input))
	var lists [][]api.Node
	for k := range 3 {
		nodes, _ := r.Nodes()
		if len(nodes) != 1+5+9 {
			t.Fatalf("Nodes = %v", nodes)
		}
		full := nodes[:cap(nodes)]
		for i := range full {
			full[i] = api.Node{Rule: k, From: i, To: -1, Depth: -1}
		}
		lists = append(lists, full)
		expectEnded(t, r, digits, input)
	}
	expectAgain(t, r, api.OK)
	expectFeed(t, r, "98", api.OK)
	expectEnd(t, r, digits, "98")
	for k, list := range lists {
		for i, node := range list {
			if node != (api.Node{Rule: k, From: i, To: -1, Depth: -1}) {
				t.Errorf("list %d was changed: %v at %d", k, node, i)
			}
		}
	}
}

// A list that was not written into stays as it was told, whatever the reader does later.
func TestNodesAreNotChangedLater(t *testing.T) {
	r := newReader(t, digits)
	expectFeed(t, r, "123", api.OK)
	expectEnd(t, r, digits, "123")
	before, _ := r.Nodes()
	for _, input := range []string{"9", "987654", ""} {
		expectAgain(t, r, api.OK)
		expectFeed(t, r, input, api.OK)
		expectEnd(t, r, digits, input)
	}
	if want, _ := thicket.Tree(digits, "123"); !slices.Equal(before, want) {
		t.Errorf("the nodes became %v, want %v", before, want)
	}
}

func TestReadersInTurnsDoNotChangeOneAnother(t *testing.T) {
	words := "s <- w* w <- [a-z]+ ' '?"
	texts := []string{digits, digits, words, digits, words}
	inputs := []string{"12345", "1x", "ab c", "", "12"}
	var readers []*thicket.Reader
	for _, text := range texts {
		readers = append(readers, newReader(t, text))
	}
	for round := range 3 {
		for at := range 5 {
			for i, r := range readers {
				if at < len(inputs[i]) {
					expectFeed(t, r, inputs[i][at:at+1], api.OK)
				}
			}
		}
		// Some end ahead of others, which stand open meanwhile.
		for i := range readers {
			k := (i*2 + round) % len(readers)
			expectOpen(t, readers[k])
			expectEnd(t, readers[k], texts[k], inputs[k])
		}
		for i, r := range readers {
			expectEnded(t, r, texts[i], inputs[i])
			expectDone(t, r)
		}
		for i, r := range readers {
			expectAgain(t, r, api.OK)
			for _, other := range readers[i+1:] {
				expectDone(t, other)
			}
		}
	}
}

// P2: what hangs on its arguments alone is told alike beside readers of the same text that are new, fed and ended.
func TestCallsBesideReaders(t *testing.T) {
	printed := "s <- p*\np <- &d d d?\nd <- [0-9]\n"
	expectAll := func() {
		t.Helper()
		expectCheck(t, digits, api.OK, 0)
		expectPrint(t, digits, printed)
		expectMatch(t, digits, "123x", 3)
		expectMatch(t, digits, "", 0)
		expectMatch(t, "s <- 'x'", "12", nothing)
		expectTree(t, digits, "123x", "s:0-3 .p:0-2 ..d:0-1 ..d:1-2 .p:2-3 ..d:2-3")
		expectTree(t, digits, "", "s:0-0")
		expectEnd(t, newReader(t, digits), digits, "")
	}
	r, other := newReader(t, digits), newReader(t, "s <- 'x'")
	expectAll()
	expectFeed(t, r, "98", api.OK)
	expectFeed(t, other, "y", api.OK)
	expectAll()
	expectFeed(t, r, strings.Repeat("9", api.MaxInput), api.ErrFull)
	expectAll()
	expectEnd(t, r, digits, "98")
	expectAll()
	expectEnd(t, other, "s <- 'x'", "y")
	expectEnded(t, r, digits, "98")
	expectAgain(t, r, api.OK)
	expectAll()
	expectEnd(t, r, digits, "")
}

// Readers that are used at the same time, each by one goroutine, do as they do alone.
func TestReadersAtTheSameTime(t *testing.T) {
	var all sync.WaitGroup
	for i := range 8 {
		text := []string{digits, "s <- (!'5' d)* d <- ."}[i%2]
		r := newReader(t, text)
		all.Go(func() {
			for k := range 50 {
				input := strings.Repeat("125", k+1) + strings.Repeat("9", i)
				expectFeed(t, r, input[:k], api.OK)
				expectFeed(t, r, input[k:], api.OK)
				expectEnd(t, r, text, input)
				expectAgain(t, r, api.OK)
			}
		})
	}
	all.Wait()
}

// lent gives a string whose bytes become others when it is asked for back: whoever has kept it sees them.
func lent(text string) (string, func()) {
	memory := []byte(text)
	return unsafe.String(unsafe.SliceData(memory), len(memory)), func() {
		for i := range memory {
			memory[i] = '?'
		}
	}
}

func TestReaderKeepsNothingThatIsHandedIn(t *testing.T) {
	text := "start <- word ('\\n' / 'end' / [a-c])+ word <- 'longer'"
	borrowed, back := lent(text)
	r := newReader(t, borrowed)
	back()
	for range 2 {
		for _, piece := range []string{"lon", "ger", "\nendb"} {
			borrowed, back := lent(piece)
			expectFeed(t, r, borrowed, api.OK)
			back()
		}
		expectEnd(t, r, text, "longer\nendb")
		expectAgain(t, r, api.OK)
	}
}

// A Reader that New did not give refuses every call, and does not panic.
func TestReadersThatNewDidNotGive(t *testing.T) {
	refused, _ := thicket.New("")
	for _, r := range []*thicket.Reader{refused, nil, {}} {
		for range 2 {
			expectOpen(t, r)
			expectDone(t, r)
		}
	}
}

// P12: as many tries as there would be without remembering, none could wait for.
func TestEndEndsSoon(t *testing.T) {
	input := strings.Repeat("x", api.MaxInput)
	for _, text := range []string{
		"a <- . a 'y' / . a 'z' / . a / .",
		"a <- b 'y' / b 'z' / b b <- . a 'w' / . a / .",
		"a <- . (a 'y')? (a 'z')? a?",
		"a <- . !(a 'y') !(a 'z') a / .",
		"a <- (&(&(&(b* !.) b* !.) b* !.) b)* b <- .",
		"a <- (!(!(!(b* 'y') b* 'y') b* 'y') b)* 'y' b <- .",
		chain(". a a / . a?"),
	} {
		r := newReader(t, text)
		soon(t, text, func() {
			for range 3 {
				expectFeed(t, r, input, api.OK)
				expectEnd(t, r, text, input)
				expectAgain(t, r, api.OK)
			}
		})
	}
}

// told: what the document says of a reader.
type told struct {
	reader *thicket.Reader
	text   string
	input  string
	ended  bool
}

func (w *told) feed(t *testing.T, piece string) {
	t.Helper()
	switch {
	case w.ended:
		expectFeed(t, w.reader, piece, api.ErrDone)
	case len(w.input+piece) > api.MaxInput:
		expectFeed(t, w.reader, piece, api.ErrFull)
	default:
		expectFeed(t, w.reader, piece, api.OK)
		w.input += piece
	}
}

func (w *told) end(t *testing.T) {
	t.Helper()
	if w.ended {
		expectDone(t, w.reader)
		return
	}
	expectEnd(t, w.reader, w.text, w.input)
	w.ended = true
}

func (w *told) again(t *testing.T) {
	t.Helper()
	if !w.ended {
		expectOpen(t, w.reader)
		return
	}
	expectEnded(t, w.reader, w.text, w.input)
	expectAgain(t, w.reader, api.OK)
	w.input, w.ended = "", false
}

// Readers of several texts, new ones among them, and calls in any order.
func TestReadersDoAsTold(t *testing.T) {
	texts := []string{digits, "s <- 'x'* '1'", "s <- x s / y x <- 'x' / '1' y <- 'y'?", "s <- (!'2' any)* '2' any <- ."}
	from := rand.New(rand.NewPCG(3, 4))
	var readers []*told
	fed, full, ends, agains := 0, 0, 0, 0
	for range 20000 {
		if len(readers) < 12 && from.IntN(50) == 0 {
			text := texts[from.IntN(len(texts))]
			readers = append(readers, &told{reader: newReader(t, text), text: text})
		}
		if len(readers) == 0 {
			continue
		}
		w := readers[from.IntN(len(readers))]
		switch from.IntN(16) {
		case 0:
			w.end(t)
			ends++
		case 1, 2:
			w.again(t)
			agains++
		case 3, 4:
			w.feed(t, strings.Repeat("x", from.IntN(api.MaxInput+10)))
			full++
		default:
			w.feed(t, []string{"", "1", "12", "x", "xy1", "2"}[from.IntN(6)])
			fed++
		}
	}
	if len(readers) != 12 || fed < 10000 || full < 2000 || ends < 1000 || agains < 2000 {
		t.Errorf("only %d readers, %d short and %d long pieces, %d ends, %d times again", len(readers), fed, full, ends, agains)
	}
}
