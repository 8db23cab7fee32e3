package grammar

import (
	"thicket/api"
	"thicket/fault"
	"thicket/scan"
)

// reader goes through the tokens of a text; depth counts the brackets that are open.
type reader struct {
	tokens []scan.Token
	next   int
	depth  int
}

// Read gives the grammar that a text is; an error of it is a fault.Fault with a byte as its place.
func Read(text string) (Grammar, error) {
	if len(text) > api.MaxText {
		return nil, fault.Fault{Errno: api.ErrLong, Place: 0}
	}
	r := &reader{tokens: scan.Cut(text)}
	return r.grammar()
}

func (r *reader) kind() scan.Kind {
	return r.tokens[r.next].Kind
}

func (r *reader) refuse(errno api.Errno) error {
	return fault.Fault{Errno: errno, Place: r.tokens[r.next].Place}
}

// expect goes past a token of that kind.
func (r *reader) expect(kind scan.Kind) (scan.Token, error) {
	token := r.tokens[r.next]
	if token.Kind != kind {
		return token, r.refuse(api.ErrSyntax)
	}
	r.next++
	return token, nil
}

func (r *reader) grammar() (Grammar, error) {
	var g Grammar
	for {
		rule, err := r.rule(len(g))
		if err != nil {
			return nil, err
		}
		g = append(g, rule)
		if r.kind() == scan.End {
			return g, nil
		}
	}
}

func (r *reader) rule(number int) (Rule, error) {
	name, err := r.expect(scan.Name)
	if err != nil {
		return Rule{}, err
	}
	// The count comes behind the syntax: only an arrow that may stand here is one too many.
	if r.kind() == scan.Arrow && number == api.MaxRules {
		return Rule{}, r.refuse(api.ErrRules)
	}
	if _, err := r.expect(scan.Arrow); err != nil {
		return Rule{}, err
	}
	choice, err := r.choice()
	return Rule{Name: name.Text, Choice: choice}, err
}

func (r *reader) choice() (Choice, error) {
	var c Choice
	for {
		sequence, err := r.sequence()
		if err != nil {
			return nil, err
		}
		c = append(c, sequence)
		if r.kind() != scan.Slash {
			return c, nil
		}
		r.next++
	}
}

func (r *reader) sequence() (Sequence, error) {
	var s Sequence
	for r.beginsTerm() {
		term, err := r.term()
		if err != nil {
			return nil, err
		}
		s = append(s, term)
	}
	return s, nil
}

func (r *reader) beginsTerm() bool {
	switch r.kind() {
	case scan.Name:
		return !r.beginsRule()
	case scan.And, scan.Not, scan.Literal, scan.Class, scan.Dot, scan.Open:
		return true
	}
	return false
}

// beginsRule: is the name here the next rule's? Within brackets no rule can begin, so there it is the arrow that is wrong.
func (r *reader) beginsRule() bool {
	return r.depth == 0 && r.tokens[r.next+1].Kind == scan.Arrow
}

func (r *reader) term() (Term, error) {
	ahead := r.sign(scan.And, scan.Not)
	piece, err := r.piece()
	if err != nil {
		return Term{}, err
	}
	behind := r.sign(scan.Maybe, scan.Star, scan.Plus)
	return Term{Ahead: ahead, Piece: piece, Behind: behind}, nil
}

// sign goes past one of these signs, if one stands there.
func (r *reader) sign(kinds ...scan.Kind) Sign {
	for _, kind := range kinds {
		if r.kind() == kind {
			r.next++
			return Sign(kind)
		}
	}
	return None
}

func (r *reader) piece() (Piece, error) {
	token := r.tokens[r.next]
	var piece Piece
	switch token.Kind {
	case scan.Name:
		piece = Name{Text: token.Text}
	case scan.Literal:
		piece = Literal{Bytes: token.Text}
	case scan.Class:
		piece = Class{Spans: token.Spans}
	case scan.Dot:
		piece = Any{}
	case scan.Open:
		return r.group()
	default:
		return nil, r.refuse(api.ErrSyntax)
	}
	r.next++
	return piece, nil
}

func (r *reader) group() (Piece, error) {
	if r.depth == api.MaxDepth {
		return nil, r.refuse(api.ErrDeep)
	}
	r.next++
	r.depth++
	defer func() { r.depth-- }()
	choice, err := r.choice()
	if err != nil {
		return nil, err
	}
	if _, err := r.expect(scan.Close); err != nil {
		return nil, err
	}
	return Group{Choice: choice}, nil
}
