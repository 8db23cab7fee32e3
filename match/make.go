package match

import (
	"slices"
	"strings"

	"thicket/grammar"
	"thicket/scan"
)

// maker knows, beside what it makes, what is needed for the making alone.
type maker struct {
	matcher *Matcher
	numbers map[string]int
	made    int
}

// Make makes a grammar, in which every name is that of a rule, into a matcher; numbers has each rule's number by its name.
func Make(g grammar.Grammar, numbers map[string]int) *Matcher {
	m := maker{matcher: &Matcher{rules: make([]expression, len(g))}, numbers: numbers}
	for i, rule := range g {
		m.matcher.rules[i] = m.choice(rule.Choice)
	}
	return m.matcher
}

// remembered gives an expression its number, and makes it one that is tried once at a place.
func (m *maker) remembered(e expression) expression {
	matcher, number := m.matcher, m.made
	m.made++
	return func(place int) outcome { return matcher.once(number, e, place) }
}

func (m *maker) choice(choice grammar.Choice) expression {
	var sequences []expression
	for _, sequence := range choice {
		sequences = append(sequences, m.sequence(sequence))
	}
	return m.remembered(func(place int) outcome {
		for _, sequence := range sequences {
			if came := sequence(place); came.ok {
				return came
			}
		}
		return outcome{}
	})
}

// sequence may come to nothing by its last term, when the others have noted their uses already: those are then taken back.
func (m *maker) sequence(sequence grammar.Sequence) expression {
	var terms []expression
	for _, term := range sequence {
		terms = append(terms, m.term(term))
	}
	matcher := m.matcher
	return m.remembered(func(place int) (came outcome) {
		before := matcher.noted
		defer func() {
			if !came.ok {
				matcher.takeBack(before)
			}
		}()
		came = outcome{place, true}
		for _, term := range terms {
			if came = term(came.end); !came.ok {
				break
			}
		}
		return came
	})
}

func (m *maker) term(term grammar.Term) expression {
	item := m.item(term)
	switch term.Ahead {
	case grammar.And:
		return m.ahead(item, true)
	case grammar.Not:
		return m.ahead(item, false)
	}
	return item
}

// ahead takes no bytes, if it is as wanted whether e takes something there; it only looks, so what e noted is taken back at all events.
func (m *maker) ahead(e expression, wanted bool) expression {
	matcher := m.matcher
	return m.remembered(func(place int) outcome {
		defer matcher.takeBack(matcher.noted)
		if e(place).ok != wanted {
			return outcome{}
		}
		return outcome{place, true}
	})
}

func (m *maker) item(term grammar.Term) expression {
	piece := m.piece(term.Piece)
	switch term.Behind {
	case grammar.Maybe:
		return m.maybe(piece)
	case grammar.Star:
		return m.maybe(m.plus(piece))
	case grammar.Plus:
		return m.plus(piece)
	}
	return piece
}

func (m *maker) maybe(e expression) expression {
	return m.remembered(func(place int) outcome {
		if came := e(place); came.ok {
			return came
		}
		return outcome{place, true}
	})
}

// plus goes on by itself behind the first e, and not round in a loop: so the rest of a repetition is remembered too, whatever place it was begun at.
func (m *maker) plus(e expression) expression {
	var plus expression
	plus = m.remembered(func(place int) outcome {
		first := e(place)
		if !first.ok {
			return outcome{}
		}
		if rest := plus(first.end); rest.ok {
			return rest
		}
		return first
	})
	return plus
}

func (m *maker) piece(piece grammar.Piece) expression {
	switch p := piece.(type) {
	case grammar.Name:
		return m.name(p.Text)
	case grammar.Literal:
		return m.literal(p.Bytes)
	case grammar.Class:
		return m.class(p.Spans)
	case grammar.Group:
		return m.choice(p.Choice)
	}
	return m.single(func(byte) bool { return true })
}

// name knows its rule by the number, for the rule may be made later than the name. A use that took no bytes is not noted: there may be more of those than could ever be listed.
func (m *maker) name(text string) expression {
	matcher, number := m.matcher, m.numbers[text]
	return m.remembered(func(place int) outcome {
		use, ok := matcher.use(number, place)
		if use.Taken() > 0 {
			matcher.note(use)
		}
		return outcome{use.to, ok}
	})
}

func (m *maker) literal(taken string) expression {
	matcher := m.matcher
	return m.remembered(func(place int) outcome {
		if !strings.HasPrefix(matcher.input[place:], taken) {
			return outcome{}
		}
		return outcome{place + len(taken), true}
	})
}

func (m *maker) class(spans []scan.Span) expression {
	return m.single(func(b byte) bool {
		return slices.ContainsFunc(spans, func(span scan.Span) bool {
			return span.Low <= b && b <= span.High
		})
	})
}

// single takes one byte of which that holds.
func (m *maker) single(holds func(byte) bool) expression {
	matcher := m.matcher
	return m.remembered(func(place int) outcome {
		if place == len(matcher.input) || !holds(matcher.input[place]) {
			return outcome{}
		}
		return outcome{place + 1, true}
	})
}
