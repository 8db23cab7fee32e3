package fault

import (
	"errors"
	"testing"

	"thicket/api"
)

type wrapped struct{ inner error }

func (w wrapped) Error() string { return "wrapped: " + w.inner.Error() }
func (w wrapped) Unwrap() error { return w.inner }

func TestFaultIsFoundInAnError(t *testing.T) {
	want := Fault{Errno: api.ErrDeep, Place: 11}
	var got Fault
	if !errors.As(wrapped{want}, &got) || got != want {
		t.Errorf("got %v, want %v", got, want)
	}
	if text := want.Error(); text != "refused with 3 at 11" {
		t.Errorf("Error() = %q", text)
	}
}
