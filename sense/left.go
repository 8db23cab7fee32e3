package sense

import (
	"thicket/api"
	"thicket/fault"
	"thicket/grammar"
)

// checkLeft refuses the first rule that comes first to itself.
func (f Facts) checkLeft(g grammar.Grammar) error {
	first := make([][]bool, len(g))
	for i, rule := range g {
		first[i] = make([]bool, len(g))
		f.markChoice(rule.Choice, first[i])
	}
	spread(first)
	for i := range first {
		if first[i][i] {
			return fault.Fault{Errno: api.ErrLeft, Place: i}
		}
	}
	return nil
}

// markChoice marks the rules that a choice comes first to by names of its own.
func (f Facts) markChoice(choice grammar.Choice, first []bool) {
	for _, sequence := range choice {
		for _, term := range sequence {
			f.markPiece(term.Piece, first)
			if !f.emptyTerm(term) {
				break
			}
		}
	}
}

func (f Facts) markPiece(piece grammar.Piece, first []bool) {
	switch p := piece.(type) {
	case grammar.Name:
		first[f.Numbers[p.Text]] = true
	case grammar.Group:
		f.markChoice(p.Choice, first)
	}
}

// spread makes each rule come to what the rules that it comes to come to. With the rule in the middle going outermost, one round is enough.
func spread(first [][]bool) {
	for middle := range first {
		for from := range first {
			if !first[from][middle] {
				continue
			}
			for to := range first {
				if first[middle][to] {
					first[from][to] = true
				}
			}
		}
	}
}
