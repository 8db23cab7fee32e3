package sense

import (
	"errors"
	"fmt"
	"testing"

	"thicket/api"
	"thicket/fault"
	"thicket/grammar"
)

func look(t *testing.T, text string) (Facts, error) {
	t.Helper()
	g, err := grammar.Read(text)
	if err != nil {
		t.Fatalf("%q: %v", text, err)
	}
	return Look(g)
}

func TestFacts(t *testing.T) {
	facts, err := look(t, "a <- 'x' c / b c b <- .? c <- 'x' a")
	if err != nil || fmt.Sprint(facts.Numbers) != "map[a:0 b:1 c:2]" || fmt.Sprint(facts.Empty) != "[false true false]" {
		t.Errorf("got %v, %v", facts, err)
	}
}

func TestFaults(t *testing.T) {
	_, err := look(t, "a <- . b <- . c b <- .")
	var wrong fault.Fault
	if !errors.As(err, &wrong) || wrong != (fault.Fault{Errno: api.ErrTwice, Place: 2}) {
		t.Errorf("got %v", err)
	}
}
