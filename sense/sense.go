// Package sense: what the rules of a grammar mean to each other, and what is wrong with that.
package sense

import (
	"thicket/api"
	"thicket/fault"
	"thicket/grammar"
)

// Facts: Numbers has each rule's number by its name; Empty tells of each rule whether it may take nothing.
type Facts struct {
	Numbers map[string]int
	Empty   []bool
}

// Look gives the facts of a grammar; an error of it is a fault.Fault with the number of a rule as its place.
func Look(g grammar.Grammar) (Facts, error) {
	facts := Facts{Numbers: map[string]int{}, Empty: make([]bool, len(g))}
	if err := facts.number(g); err != nil {
		return Facts{}, err
	}
	if err := firstOf(g, api.ErrUnknown, facts.hasUnknown); err != nil {
		return Facts{}, err
	}
	facts.findEmpty(g)
	if err := firstOf(g, api.ErrLoop, facts.hasLoop); err != nil {
		return Facts{}, err
	}
	if err := facts.checkLeft(g); err != nil {
		return Facts{}, err
	}
	return facts, nil
}

// firstOf refuses the first rule of whose choice that holds.
func firstOf(g grammar.Grammar, errno api.Errno, holds func(grammar.Choice) bool) error {
	for i, rule := range g {
		if holds(rule.Choice) {
			return fault.Fault{Errno: errno, Place: i}
		}
	}
	return nil
}

func (f Facts) number(g grammar.Grammar) error {
	for i, rule := range g {
		if _, twice := f.Numbers[rule.Name]; twice {
			return fault.Fault{Errno: api.ErrTwice, Place: i}
		}
		f.Numbers[rule.Name] = i
	}
	return nil
}

func (f Facts) hasUnknown(choice grammar.Choice) bool {
	return someTerm(choice, func(term grammar.Term) bool {
		name, is := term.Piece.(grammar.Name)
		if !is {
			return false
		}
		_, known := f.Numbers[name.Text]
		return !known
	})
}

func (f Facts) hasLoop(choice grammar.Choice) bool {
	return someTerm(choice, func(term grammar.Term) bool {
		return term.Repeated() && f.emptyPiece(term.Piece)
	})
}

// someTerm: does that hold of a term of the choice, or of one in brackets in it?
func someTerm(choice grammar.Choice, holds func(grammar.Term) bool) bool {
	for _, sequence := range choice {
		for _, term := range sequence {
			if holds(term) {
				return true
			}
			if group, is := term.Piece.(grammar.Group); is && someTerm(group.Choice, holds) {
				return true
			}
		}
	}
	return false
}
