package plain

import (
	"testing"

	"thicket/grammar"
)

func TestText(t *testing.T) {
	g, err := grammar.Read("a<-.(b)/b<-'\t'")
	if got := Text(g); err != nil || got != "a <- . b / ()\nb <- '\\t'\n" {
		t.Errorf("got %q, %v", got, err)
	}
}
