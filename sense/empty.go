package sense

import "thicket/grammar"

// findEmpty begins with no rule that may take nothing and adds those that must be, till none is added: so a circle of rules makes none of them so by itself.
func (f Facts) findEmpty(g grammar.Grammar) {
	for added := true; added; {
		added = false
		for i, rule := range g {
			if !f.Empty[i] && f.emptyChoice(rule.Choice) {
				f.Empty[i] = true
				added = true
			}
		}
	}
}

func (f Facts) emptyChoice(choice grammar.Choice) bool {
	for _, sequence := range choice {
		if f.emptySequence(sequence) {
			return true
		}
	}
	return false
}

func (f Facts) emptySequence(sequence grammar.Sequence) bool {
	for _, term := range sequence {
		if !f.emptyTerm(term) {
			return false
		}
	}
	return true
}

func (f Facts) emptyTerm(term grammar.Term) bool {
	if term.Ahead != grammar.None || term.Behind == grammar.Maybe || term.Behind == grammar.Star {
		return true
	}
	return f.emptyPiece(term.Piece)
}

func (f Facts) emptyPiece(piece grammar.Piece) bool {
	switch p := piece.(type) {
	case grammar.Name:
		return f.Empty[f.Numbers[p.Text]]
	case grammar.Group:
		return f.emptyChoice(p.Choice)
	}
	return false
}
