package scan

import (
	"fmt"
	"strings"
	"testing"

	"thicket/api"
)

func shown(tokens []Token) string {
	var parts []string
	for _, token := range tokens {
		parts = append(parts, fmt.Sprintf("%d@%d%q%v", token.Kind, token.Place, token.Text, token.Spans))
	}
	return strings.Join(parts, " ")
}

func TestCut(t *testing.T) {
	for _, c := range []struct {
		text string
		want []Token
	}{
		{"", []Token{{Kind: End}}},
		{" \t\r\n# a <- '\n #", []Token{{Kind: End, Place: 15}}},
		{"ab<-c", []Token{{Kind: Name, Text: "ab"}, {Kind: Arrow, Place: 2}, {Kind: Name, Place: 4, Text: "c"}, {Kind: End, Place: 5}}},
		{"#x\n/ &", []Token{{Kind: Slash, Place: 3}, {Kind: And, Place: 5}, {Kind: End, Place: 6}}},
		{"!?*+().", []Token{{Kind: Not}, {Kind: Maybe, Place: 1}, {Kind: Star, Place: 2}, {Kind: Plus, Place: 3}, {Kind: Open, Place: 4}, {Kind: Close, Place: 5}, {Kind: Dot, Place: 6}, {Kind: End, Place: 7}}},
		{`'#\n\t\\\'-]"' `, []Token{{Kind: Literal, Text: "#\n\t\\'-]\""}, {Kind: End, Place: 15}}},
		{`[#\n-\\a\--\]']`, []Token{{Kind: Class, Spans: []Span{{'#', '#'}, {'\n', '\\'}, {'a', 'a'}, {'-', ']'}, {'\'', '\''}}}, {Kind: End, Place: 15}}},
		{"'a''b'", []Token{{Kind: Literal, Text: "a"}, {Kind: Literal, Place: 3, Text: "b"}, {Kind: End, Place: 6}}},
		{"a\fb", []Token{{Kind: Name, Text: "a"}, {Kind: Bad, Place: 1}}},
		{"a <", []Token{{Kind: Name, Text: "a"}, {Kind: Bad, Place: 2}}},
	} {
		if got := Cut(c.text); shown(got) != shown(c.want) {
			t.Errorf("Cut(%q) = %s, want %s", c.text, shown(got), shown(c.want))
		}
	}
}

func TestLimitsOfTokens(t *testing.T) {
	for _, c := range []struct {
		text string
		want Kind
	}{
		{strings.Repeat("z", api.MaxName), Name},
		{strings.Repeat("z", api.MaxName+1), Bad},
		{"'" + strings.Repeat(`\'`, api.MaxItems) + "'", Literal},
		{"'" + strings.Repeat(`\'`, api.MaxItems+1) + "'", Bad},
		{"[" + strings.Repeat("a-z", api.MaxItems) + "]", Class},
		{"[" + strings.Repeat("a-z", api.MaxItems) + "a]", Bad},
		{"''", Bad},
		{"[]", Bad},
	} {
		if got := Cut(c.text)[0].Kind; got != c.want {
			t.Errorf("Cut(%q) begins with %d, want %d", c.text, got, c.want)
		}
	}
}

// Every byte, in a literal and in a class: what Written tells of it is read as that byte.
func TestWrittenIsRead(t *testing.T) {
	for i := range 256 {
		c := byte(i)
		for _, marked := range []string{InLiteral, InClass} {
			text := Written(c, marked)
			if got, size := characterAt(text, 0, marked); got != c || size != len(text) {
				t.Errorf("byte %d with %q: %q is read as %d, of %d bytes", c, marked, text, got, size)
			}
		}
	}
}
