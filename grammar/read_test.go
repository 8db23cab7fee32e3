package grammar

import (
	"errors"
	"fmt"
	"testing"

	"thicket/api"
	"thicket/fault"
)

func TestRead(t *testing.T) {
	for _, c := range []struct {
		text string
		want Grammar
	}{
		{"a <-", Grammar{{"a", Choice{nil}}}},
		{"a <- b <- .", Grammar{{"a", Choice{nil}}, {"b", Choice{{{Piece: Any{}}}}}}},
		{"a <- 'x' / b <-", Grammar{{"a", Choice{{{Piece: Literal{"x"}}}, nil}}, {"b", Choice{nil}}}},
		{"a <- !b* c+", Grammar{{"a", Choice{{{Not, Name{"b"}, Star}, {None, Name{"c"}, Plus}}}}}},
		{"a <- &(b/)?", Grammar{{"a", Choice{{{And, Group{Choice{{{Piece: Name{"b"}}}, nil}}, Maybe}}}}}},
	} {
		got, err := Read(c.text)
		if err != nil || fmt.Sprintf("%#v", got) != fmt.Sprintf("%#v", c.want) {
			t.Errorf("Read(%q) = %#v, %v, want %#v", c.text, got, err, c.want)
		}
	}
}

func TestReadRefuses(t *testing.T) {
	got, err := Read("a <- (b\n c <- .)")
	var wrong fault.Fault
	if got != nil || !errors.As(err, &wrong) || wrong != (fault.Fault{Errno: api.ErrSyntax, Place: 11}) {
		t.Errorf("got %v, %v", got, err)
	}
}
