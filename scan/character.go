package scan

import "strings"

// The bytes, beside the backslash and the line feed, that stand with a backslash ahead in a literal and in a class.
const (
	InLiteral = "'"
	InClass   = "]-"
)

// characterAt gives the character that begins there, and how many bytes it is written with: 0 if none does.
func characterAt(text string, at int, marked string) (byte, int) {
	if at >= len(text) {
		return 0, 0
	}
	c := text[at]
	switch {
	case c == '\\':
		return escapedAt(text, at+1, marked)
	case c == '\n' || strings.IndexByte(marked, c) >= 0:
		return 0, 0
	}
	return c, 1
}

func escapedAt(text string, at int, marked string) (byte, int) {
	if at >= len(text) {
		return 0, 0
	}
	c := text[at]
	switch {
	case c == 'n':
		return '\n', 2
	case c == 't':
		return '\t', 2
	case c == '\\' || strings.IndexByte(marked, c) >= 0:
		return c, 2
	}
	return 0, 0
}

// Written gives a character in its plain form, as characterAt reads it.
func Written(c byte, marked string) string {
	switch {
	case c == '\n':
		return "\\n"
	case c == '\t':
		return "\\t"
	case c == '\\' || strings.IndexByte(marked, c) >= 0:
		return string([]byte{'\\', c})
	}
	return string([]byte{c})
}
