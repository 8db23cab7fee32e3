package thicket_test

import (
	"math/rand/v2"
	"slices"
	"strings"
	"testing"

	"thicket/api"
	"thicket/thicket"
)

// thing is an expression as the document tells it, and is tried word for word as told there: with loops, and nothing remembered.
type thing struct {
	kind  byte // a sign; or '/' a choice, ' ' a sequence, 'n' the name of rule text, 'l' the literal text, '.' any byte
	text  string
	parts []*thing
}

// write gives its text; what has parts stands in brackets.
func (e *thing) write() string {
	switch e.kind {
	case 'n', '.':
		return e.text
	case 'l':
		return "'" + e.text + "'"
	case '&', '!':
		return "(" + string(rune(e.kind)) + e.parts[0].write() + ")"
	case '?', '*', '+':
		return "(" + e.parts[0].write() + string(rune(e.kind)) + ")"
	}
	var texts []string
	for _, part := range e.parts {
		texts = append(texts, part.write())
	}
	return "(" + strings.Join(texts, string(rune(e.kind))) + ")"
}

// reading: an input, and the rules that it is read by.
type reading struct {
	rules map[string]*thing
	input string
}

// took: where a thing ended, and the uses of rules that it took something by, those of depth 0 being its own.
type took struct {
	end   int
	nodes []api.Node
}

// try tells what a thing takes at a place, and whether it does.
func (r reading) try(e *thing, place int) (took, bool) {
	switch e.kind {
	case 'n':
		return r.tryName(e.text, place)
	case 'l':
		return took{end: place + len(e.text)}, strings.HasPrefix(r.input[place:], e.text)
	case '.':
		return took{end: place + 1}, place < len(r.input)
	case '/':
		for _, part := range e.parts {
			if came, ok := r.try(part, place); ok {
				return came, true
			}
		}
		return took{}, false
	case ' ':
		all := took{end: place}
		for _, part := range e.parts {
			came, ok := r.try(part, all.end)
			if !ok {
				return took{}, false
			}
			all = all.and(came)
		}
		return all, true
	}
	return r.trySigned(e, place)
}

func (t took) and(next took) took {
	return took{next.end, slices.Concat(t.nodes, next.nodes)}
}

func (r reading) tryName(name string, place int) (took, bool) {
	came, ok := r.try(r.rules[name], place)
	if !ok || came.end == place {
		return took{end: place}, ok
	}
	return took{came.end, came.within(strings.Index("rst", name), place)}, true
}

// within gives the use of a rule that took this, and those in it.
func (t took) within(rule, from int) []api.Node {
	nodes := []api.Node{{Rule: rule, From: from, To: t.end}}
	for _, node := range t.nodes {
		node.Depth++
		nodes = append(nodes, node)
	}
	return nodes
}

func (r reading) trySigned(e *thing, place int) (took, bool) {
	came, ok := r.try(e.parts[0], place)
	switch e.kind {
	case '&':
		return took{end: place}, ok
	case '!':
		return took{end: place}, !ok
	}
	if !ok {
		return took{end: place}, e.kind != '+'
	}
	for e.kind != '?' {
		next, ok := r.try(e.parts[0], came.end)
		if !ok {
			break
		}
		came = came.and(next)
	}
	return came, true
}

// nodes gives the tree: the first rule's use is in it even if it took no bytes.
func (r reading) nodes() []api.Node {
	came, ok := r.try(r.rules["r"], 0)
	if !ok {
		return nil
	}
	return came.within(0, 0)
}

// anything gives an expression with at most so many brackets within each other, and names that are letters of those.
func anything(from *rand.Rand, deep int, names string) *thing {
	kinds := "/////       &!?**+nnnnnnll."
	if deep == 0 {
		kinds = "nnnll.."
	}
	e := &thing{kind: kinds[from.IntN(len(kinds))]}
	count := 1
	switch e.kind {
	case 'n':
		e.text = string(names[from.IntN(len(names))])
		return e
	case 'l':
		e.text = []string{"x", "x", "y", "xy"}[from.IntN(4)]
		return e
	case '.':
		e.text = "."
		return e
	case '/', ' ':
		count = 2 + from.IntN(2)
	}
	for range count {
		e.parts = append(e.parts, anything(from, deep-1, names))
	}
	return e
}

// Grammars by the hundred, each by all short inputs, one reader reading all of them; and the plain form of each, which must take the same by the same rules.
func TestMatchTreeAndReaderDoAsToldWordForWord(t *testing.T) {
	var inputs []string
	eachOf([]string{"x", "y"}, 5, nil, func(row []string) { inputs = append(inputs, strings.Join(row, "")) })
	from := rand.New(rand.NewPCG(1, 2))
	tried, matched, noted := 0, 0, 0
	for range 3000 {
		// Mostly names of later rules: of grammars that go round, most are refused.
		rules := map[string]*thing{"r": anything(from, 4, "rssssttt"), "s": anything(from, 3, "rttttttt"), "t": anything(from, 2, "rst")}
		text := "r <- " + rules["r"].write() + " s <- " + rules["s"].write() + " t <- " + rules["t"].write()
		printed, errno := thicket.Print(text)
		if errno != api.OK {
			continue
		}
		tried++
		r := newReader(t, text)
		for _, input := range inputs {
			nodes := reading{rules, input}.nodes()
			want := nothing
			if nodes != nil {
				want = nodes[0].To
				matched++
			}
			if len(nodes) > 2 {
				noted++
			}
			expectMatch(t, text, input, want)
			expectNodes(t, text, input, nodes)
			expectNodes(t, printed, input, nodes)
			expectFeed(t, r, input[:len(input)/2], api.OK)
			expectFeed(t, r, input[len(input)/2:], api.OK)
			expectTaken(t, r, want)
			expectTold(t, r, nodes)
			expectAgain(t, r, api.OK)
		}
	}
	if tried < 500 || matched < 10000 || noted < 2000 {
		t.Errorf("only %d grammars were tried, and took something off %d inputs, with trees worth looking at off %d", tried, matched, noted)
	}
}
