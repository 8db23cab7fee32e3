package thicket_test

import (
	"math/rand/v2"
	"strings"
	"testing"

	"thicket/api"
	"thicket/thicket"
)

// thing is an expression as the document tells it, and is tried word for word as told there: with loops, and nothing remembered.
type thing struct {
	kind  byte // a sign; or '/' a choice, ' ' a sequence, 'n' the name of rule text, 'l' the literal text, '.' any byte
	text  string
	parts []*thing
}

// write gives its text; what has parts stands in brackets.
func (e *thing) write() string {
	switch e.kind {
	case 'n', '.':
		return e.text
	case 'l':
		return "'" + e.text + "'"
	case '&', '!':
		return "(" + string(rune(e.kind)) + e.parts[0].write() + ")"
	case '?', '*', '+':
		return "(" + e.parts[0].write() + string(rune(e.kind)) + ")"
	}
	var texts []string
	for _, part := range e.parts {
		texts = append(texts, part.write())
	}
	return "(" + strings.Join(texts, string(rune(e.kind))) + ")"
}

// try gives what is left of an input, and whether the expression takes something off it.
func (e *thing) try(rules map[string]*thing, input string) (string, bool) {
	switch e.kind {
	case 'n':
		return rules[e.text].try(rules, input)
	case 'l':
		return strings.CutPrefix(input, e.text)
	case '.':
		return input[min(1, len(input)):], input != ""
	case '/':
		for _, part := range e.parts {
			if rest, ok := part.try(rules, input); ok {
				return rest, true
			}
		}
		return input, false
	case ' ':
		rest, ok := input, true
		for i := 0; i < len(e.parts) && ok; i++ {
			rest, ok = e.parts[i].try(rules, rest)
		}
		return rest, ok
	}
	return e.trySigned(rules, input)
}

func (e *thing) trySigned(rules map[string]*thing, input string) (string, bool) {
	rest, ok := e.parts[0].try(rules, input)
	switch e.kind {
	case '&':
		return input, ok
	case '!':
		return input, !ok
	}
	if !ok {
		return input, e.kind != '+'
	}
	for e.kind != '?' && ok {
		var next string
		if next, ok = e.parts[0].try(rules, rest); ok {
			rest = next
		}
	}
	return rest, true
}

// anything gives an expression with at most so many brackets within each other.
func anything(from *rand.Rand, deep int) *thing {
	kinds := "//////      &!?*+nnl."
	if deep == 0 {
		kinds = "nlll."
	}
	e := &thing{kind: kinds[from.IntN(len(kinds))]}
	count := 1
	switch e.kind {
	case 'n':
		e.text = []string{"r", "s", "t"}[from.IntN(3)]
		return e
	case 'l':
		e.text = []string{"x", "y", "xy"}[from.IntN(3)]
		return e
	case '.':
		e.text = "."
		return e
	case '/', ' ':
		count = 2 + from.IntN(2)
	}
	for range count {
		e.parts = append(e.parts, anything(from, deep-1))
	}
	return e
}

// Grammars by the hundred, each by all short inputs; and the plain form of each, which must take the same.
func TestMatchDoesAsToldWordForWord(t *testing.T) {
	var inputs []string
	eachOf([]string{"x", "y"}, 5, nil, func(row []string) { inputs = append(inputs, strings.Join(row, "")) })
	from := rand.New(rand.NewPCG(1, 2))
	tried, took := 0, 0
	for range 4000 {
		rules := map[string]*thing{"r": anything(from, 4), "s": anything(from, 3), "t": anything(from, 3)}
		text := "r <- " + rules["r"].write() + " s <- " + rules["s"].write() + " t <- " + rules["t"].write()
		printed, errno := thicket.Print(text)
		if errno != api.OK {
			continue
		}
		tried++
		for _, input := range inputs {
			want := nothing
			if rest, ok := rules["r"].try(rules, input); ok {
				want = len(input) - len(rest)
				took++
			}
			expectMatch(t, text, input, want)
			expectMatch(t, printed, input, want)
		}
	}
	if tried < 500 || took < 10000 {
		t.Errorf("only %d grammars were tried, and took something off %d inputs", tried, took)
	}
}
