package thicket_test

import (
	"strings"
	"testing"

	"thicket/api"
	"thicket/thicket"
)

// walker tells, token by token, whether what it has seen is the beginning of a grammar. It is a table of states with a count of brackets, so that it has nothing in common with the reader that it is held against.
type walker struct {
	state byte
	open  int
	bare  bool // is the last token a name that a rule may begin with?
}

const (
	wantName  byte = iota // a rule's name
	wantArrow             // behind a first name
	inside                // a term may begin, a sequence end
	wantPiece             // behind a sign ahead
	hasPiece              // a sign may stand behind
)

func (w *walker) step(token string) bool {
	bare := w.bare
	w.bare = false
	switch token {
	case "a":
		w.bare = w.open == 0 && (w.state == inside || w.state == hasPiece)
		if w.state == wantName {
			w.state = wantArrow
			return true
		}
		return w.piece()
	case "'x'":
		return w.piece()
	case "<-":
		if w.state != wantArrow && !bare {
			return false
		}
		w.state = inside
		return true
	case "(":
		if !w.piece() {
			return false
		}
		w.open++
		w.state = inside
		return true
	}
	return w.sign(token)
}

func (w *walker) piece() bool {
	if w.state < inside {
		return false
	}
	w.state = hasPiece
	return true
}

func (w *walker) sign(token string) bool {
	between := w.state == inside || w.state == hasPiece
	switch token {
	case ")":
		if !between || w.open == 0 {
			return false
		}
		w.open--
		w.state = hasPiece
	case "/":
		if !between {
			return false
		}
		w.state = inside
	case "&":
		if !between {
			return false
		}
		w.state = wantPiece
	case "*":
		if w.state != hasPiece {
			return false
		}
		w.state = inside
	default:
		return false
	}
	return true
}

func (w *walker) done() bool {
	return w.open == 0 && (w.state == inside || w.state == hasPiece)
}

// syntaxOf gives the text of the tokens, and where Check must find it wrong: -1 if nowhere.
func syntaxOf(tokens []string) (string, int) {
	text, place := "", -1
	w := walker{}
	for _, token := range tokens {
		if place < 0 && !w.step(token) {
			place = len(text)
		}
		text += token + " "
	}
	if place < 0 && !w.done() {
		place = len(text)
	}
	return text, place
}

// eachOf calls visit with every row of at most so many of the words.
func eachOf(words []string, most int, row []string, visit func([]string)) {
	visit(row)
	if most == 0 {
		return
	}
	for _, word := range words {
		eachOf(words, most-1, append(row, word), visit)
	}
}

func TestCheckOnEveryShortRowOfTokens(t *testing.T) {
	words := []string{"a", "<-", "'x'", "(", ")", "/", "&", "*", "]"}
	for _, start := range [][]string{nil, {"a", "<-"}} {
		eachOf(words, 5, start, func(tokens []string) {
			text, place := syntaxOf(tokens)
			errno, at := thicket.Check(text)
			if place >= 0 && (errno != api.ErrSyntax || at != place) {
				t.Errorf("Check(%q) = %d, %d, want ErrSyntax, %d", text, errno, at, place)
			}
			if place < 0 && errno != api.OK && errno < api.ErrTwice {
				t.Errorf("Check(%q) = %d, %d, but it is a grammar", text, errno, at)
			}
		})
	}
}

// What is told of a grammar must be told of its plain form too, which is its own plain form.
func TestPrintOnEveryShortRule(t *testing.T) {
	words := []string{"b", "(", ")", "/", "!", "*"}
	eachOf(words, 7, nil, func(tokens []string) {
		text := "a<-" + strings.Join(tokens, "") + "\nb<-'x'"
		printed, errno := thicket.Print(text)
		if errno != api.OK {
			return
		}
		again, errno := thicket.Print(printed)
		if again != printed || errno != api.OK {
			t.Errorf("Print(%q) = %q, and of that %q, %d", text, printed, again, errno)
		}
		before, _ := thicket.Rules(text)
		after, _ := thicket.Rules(printed)
		if len(before) != 2 || len(after) != 2 || before[0] != after[0] {
			t.Errorf("Rules(%q) = %v, but of the plain form %v", text, before, after)
		}
	})
}

// P1: at any bytes the calls end, and agree about the error.
func TestCallsOnEveryShortText(t *testing.T) {
	words := []string{"a", "<", "-", "'", "\\", "[", "]", "#", "\n", "\xff"}
	eachOf(words, 4, nil, func(bytes []string) {
		for _, start := range []string{"", "a<-", "a<-[", "a<-'"} {
			text := start + strings.Join(bytes, "")
			errno, place := thicket.Check(text)
			if place < 0 || place > len(text) {
				t.Errorf("Check(%q) = %d, %d", text, errno, place)
			}
			expectCheck(t, text, errno, place)
		}
	})
}
