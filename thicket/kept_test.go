package thicket

import (
	"testing"

	"thicket/match"
)

// Behind the end the bytes are asked for no more, and ahead of another input nothing is.
func TestReaderKeepsNoMoreThanItNeeds(t *testing.T) {
	r, _ := New("a <- b+ b <- 'x'")
	for range 2 {
		r.Feed("xxy")
		r.End()
		if r.input != nil {
			t.Errorf("behind its end the input is still %q", r.input)
		}
		r.Again()
		if r.input != nil || r.use != (match.Use{}) || r.ok {
			t.Errorf("%q, %v, %v is left of the input", r.input, r.use, r.ok)
		}
	}
}
