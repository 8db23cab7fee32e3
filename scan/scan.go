// Package scan cuts a text into tokens.
package scan

import (
	"strings"

	"thicket/api"
)

// Kind says what a token is. A sign is its own byte.
type Kind byte

const (
	End Kind = iota // behind the last token
	Bad             // here begins no token
	Name
	Arrow
	Literal
	Class
	Slash Kind = '/'
	And   Kind = '&'
	Not   Kind = '!'
	Maybe Kind = '?'
	Star  Kind = '*'
	Plus  Kind = '+'
	Open  Kind = '('
	Close Kind = ')'
	Dot   Kind = '.'
)

const signs = "/&!?*+()."

// Span: the bytes from Low to High, both of them too.
type Span struct {
	Low, High byte
}

// Token: Text has the letters of a name or the bytes that a literal takes, Spans the items of a class.
type Token struct {
	Kind  Kind
	Place int
	Text  string
	Spans []Span
}

// Cut gives the tokens of a text up to its end or to the first place where none begins. The last one, and no other, is End or Bad, so whoever reads them can look one ahead of any other.
func Cut(text string) []Token {
	var tokens []Token
	at := 0
	for {
		at = skipBlanks(text, at)
		token, size := tokenAt(text, at)
		token.Place = at
		tokens = append(tokens, token)
		if token.Kind == End || token.Kind == Bad {
			return tokens
		}
		at += size
	}
}

func skipBlanks(text string, at int) int {
	for at < len(text) {
		switch text[at] {
		case ' ', '\t', '\n', '\r':
			at++
		case '#':
			at = lineEnd(text, at)
		default:
			return at
		}
	}
	return at
}

func lineEnd(text string, at int) int {
	length := strings.IndexByte(text[at:], '\n')
	if length < 0 {
		return len(text)
	}
	return at + length
}

// tokenAt gives the token that begins there, but for its place, and how many bytes it has.
func tokenAt(text string, at int) (Token, int) {
	if at == len(text) {
		return Token{Kind: End}, 0
	}
	c := text[at]
	switch {
	case isLetter(c):
		return nameAt(text, at)
	case strings.HasPrefix(text[at:], "<-"):
		return Token{Kind: Arrow}, 2
	case c == '\'':
		return literalAt(text, at)
	case c == '[':
		return classAt(text, at)
	case strings.IndexByte(signs, c) >= 0:
		return Token{Kind: Kind(c)}, 1
	}
	return bad()
}

func bad() (Token, int) {
	return Token{Kind: Bad}, 0
}

func isLetter(c byte) bool {
	return 'a' <= c && c <= 'z'
}

func nameAt(text string, at int) (Token, int) {
	size := 0
	for at+size < len(text) && isLetter(text[at+size]) {
		size++
	}
	if size > api.MaxName {
		return bad()
	}
	return Token{Kind: Name, Text: text[at : at+size]}, size
}

func literalAt(text string, at int) (Token, int) {
	var taken []byte
	end := at + 1
	for {
		c, size := characterAt(text, end, InLiteral)
		if size == 0 {
			break
		}
		taken = append(taken, c)
		end += size
	}
	if !closes(text, end, '\'', len(taken)) {
		return bad()
	}
	return Token{Kind: Literal, Text: string(taken)}, end + 1 - at
}

func classAt(text string, at int) (Token, int) {
	var spans []Span
	end := at + 1
	for {
		span, size := spanAt(text, end)
		if size == 0 {
			break
		}
		spans = append(spans, span)
		end += size
	}
	if !closes(text, end, ']', len(spans)) {
		return bad()
	}
	return Token{Kind: Class, Spans: spans}, end + 1 - at
}

// closes: does the mark stand there, behind as many items as there may be?
func closes(text string, at int, mark byte, items int) bool {
	return at < len(text) && text[at] == mark && 1 <= items && items <= api.MaxItems
}

// spanAt gives the item of a class that begins there, and how many bytes it has: 0 if none does.
func spanAt(text string, at int) (Span, int) {
	low, size := characterAt(text, at, InClass)
	if size == 0 {
		return Span{}, 0
	}
	dash := at + size
	if dash == len(text) || text[dash] != '-' {
		return Span{low, low}, size
	}
	high, more := characterAt(text, dash+1, InClass)
	if more == 0 || low > high {
		return Span{}, 0
	}
	return Span{low, high}, size + 1 + more
}
