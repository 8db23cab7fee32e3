// Package thicket: a reader of grammars, and of inputs by them: see DOC.md.
package thicket

import (
	"errors"
	"strings"

	"thicket/api"
	"thicket/fault"
	"thicket/grammar"
	"thicket/match"
	"thicket/plain"
	"thicket/sense"
)

// Check tells whether a text is a grammar, and where it is not (P3, P4).
func Check(text string) (api.Errno, int) {
	_, _, err := read(text)
	return told(err)
}

// Print tells a grammar in its plain form (P5).
func Print(text string) (string, api.Errno) {
	rules, _, err := read(text)
	if errno, _ := told(err); errno != api.OK {
		return "", errno
	}
	return plain.Text(rules), api.OK
}

// Rules tells the rules of a grammar (P6).
func Rules(text string) ([]api.Rule, api.Errno) {
	rules, facts, err := read(text)
	if errno, _ := told(err); errno != api.OK {
		return nil, errno
	}
	list := make([]api.Rule, 0, len(rules))
	for i, rule := range rules {
		// The name is a piece of the text, and an answer shares no memory with what was handed in.
		list = append(list, api.Rule{Name: strings.Clone(rule.Name), Empty: facts.Empty[i]})
	}
	return list, api.OK
}

// Match tells whether a grammar takes something off the beginning of an input, and how much (P7).
func Match(text string, input string) (int, bool, api.Errno) {
	use, ok, errno := take(text, input)
	return use.Taken(), ok, errno
}

// Tree tells which rules were used for that (P8).
func Tree(text string, input string) ([]api.Node, api.Errno) {
	use, ok, errno := take(text, input)
	if !ok {
		return nil, errno
	}
	return use.Nodes(), api.OK
}

// read gives a grammar and what its rules mean to each other; the error is that of the text, or else that of the rules.
func read(text string) (grammar.Grammar, sense.Facts, error) {
	rules, err := grammar.Read(text)
	if err != nil {
		return nil, sense.Facts{}, err
	}
	facts, err := sense.Look(rules)
	if err != nil {
		return nil, sense.Facts{}, err
	}
	return rules, facts, nil
}

// made gives the functions that a grammar is made into.
func made(text string) (*match.Matcher, api.Errno) {
	rules, facts, err := read(text)
	if errno, _ := told(err); errno != api.OK {
		return nil, errno
	}
	return match.Make(rules, facts.Numbers), api.OK
}

// take gives the use of the first rule that an input begins with, and whether there is one.
func take(text string, input string) (match.Use, bool, api.Errno) {
	matcher, errno := made(text)
	if errno != api.OK {
		return match.Use{}, false, errno
	}
	if len(input) > api.MaxInput {
		return match.Use{}, false, api.ErrLong
	}
	use, ok := matcher.Take(input)
	return use, ok, api.OK
}

// told gives the reason and the place of a fault.
func told(err error) (api.Errno, int) {
	var wrong fault.Fault
	if errors.As(err, &wrong) {
		return wrong.Errno, wrong.Place
	}
	return api.OK, 0
}
