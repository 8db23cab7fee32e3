// Package grammar: the parts of a grammar, and how they are read from a text.
package grammar

import "thicket/scan"

// Grammar is its rules, in their order.
type Grammar []Rule

// Rule: a name and what it stands for.
type Rule struct {
	Name   string
	Choice Choice
}

// Choice has at least one sequence.
type Choice []Sequence

// Sequence may be without terms.
type Sequence []Term

// Sign is the byte of a sign, or None.
type Sign byte

const (
	None  Sign = 0
	And   Sign = '&'
	Not   Sign = '!'
	Maybe Sign = '?'
	Star  Sign = '*'
	Plus  Sign = '+'
)

// Term: a piece; Ahead is None, And or Not, Behind is None, Maybe, Star or Plus.
type Term struct {
	Ahead  Sign
	Piece  Piece
	Behind Sign
}

// Signed: has it a sign, ahead or behind?
func (t Term) Signed() bool {
	return t.Ahead != None || t.Behind != None
}

// Repeated: is its piece tried again and again?
func (t Term) Repeated() bool {
	return t.Behind == Star || t.Behind == Plus
}

// Piece is a Name, a Literal, a Class, an Any or a Group.
type Piece interface {
	isPiece()
}

// Name is the use of a rule.
type Name struct {
	Text string
}

// Literal takes its bytes.
type Literal struct {
	Bytes string
}

// Class takes one byte that lies in one of its spans.
type Class struct {
	Spans []scan.Span
}

// Any takes one byte.
type Any struct{}

// Group is a choice in brackets.
type Group struct {
	Choice Choice
}

func (Name) isPiece()    {}
func (Literal) isPiece() {}
func (Class) isPiece()   {}
func (Any) isPiece()     {}
func (Group) isPiece()   {}
