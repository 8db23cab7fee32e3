// Package plain writes a grammar in its plain form.
package plain

import (
	"strings"

	"thicket/grammar"
	"thicket/scan"
)

// Text gives a line for each rule.
func Text(g grammar.Grammar) string {
	var out strings.Builder
	for _, rule := range g {
		out.WriteString(rule.Name + " <- " + choiceText(rule.Choice) + "\n")
	}
	return out.String()
}

func choiceText(choice grammar.Choice) string {
	texts := make([]string, 0, len(choice))
	for _, sequence := range choice {
		texts = append(texts, sequenceText(sequence))
	}
	return strings.Join(texts, " / ")
}

func sequenceText(sequence grammar.Sequence) string {
	if len(sequence) == 0 {
		return "()"
	}
	texts := make([]string, 0, len(sequence))
	for _, term := range sequence {
		texts = append(texts, termText(term))
	}
	return strings.Join(texts, " ")
}

func termText(term grammar.Term) string {
	return signText(term.Ahead) + pieceText(term.Piece, term.Signed()) + signText(term.Behind)
}

func signText(sign grammar.Sign) string {
	if sign == grammar.None {
		return ""
	}
	return string([]byte{byte(sign)})
}

// pieceText hangs on whether the piece has a sign, for that may need the brackets of a group.
func pieceText(piece grammar.Piece, signed bool) string {
	switch p := piece.(type) {
	case grammar.Name:
		return p.Text
	case grammar.Literal:
		return literalText(p.Bytes)
	case grammar.Class:
		return classText(p.Spans)
	case grammar.Group:
		return groupText(p.Choice, signed)
	}
	return "."
}

func groupText(choice grammar.Choice, signed bool) string {
	if len(choice) > 1 || len(choice[0]) > 1 {
		return "(" + choiceText(choice) + ")"
	}
	if len(choice[0]) == 0 {
		return "()"
	}
	only := choice[0][0]
	if !only.Signed() {
		// Without these brackets the piece within takes their place, and with it their sign.
		return pieceText(only.Piece, signed)
	}
	if signed {
		return "(" + termText(only) + ")"
	}
	return termText(only)
}

func literalText(taken string) string {
	var out strings.Builder
	out.WriteByte('\'')
	for i := range len(taken) {
		out.WriteString(scan.Written(taken[i], scan.InLiteral))
	}
	out.WriteByte('\'')
	return out.String()
}

func classText(spans []scan.Span) string {
	var out strings.Builder
	out.WriteByte('[')
	for _, span := range spans {
		out.WriteString(scan.Written(span.Low, scan.InClass))
		if span.Low != span.High {
			out.WriteByte('-')
			out.WriteString(scan.Written(span.High, scan.InClass))
		}
	}
	out.WriteByte(']')
	return out.String()
}
