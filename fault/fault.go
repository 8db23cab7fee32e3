// Package fault: what is wrong with a text, as an error.
package fault

import (
	"strconv"

	"thicket/api"
)

// Fault is the reason for a refusal and its place: a byte of the text, or the number of a rule.
type Fault struct {
	Errno api.Errno
	Place int
}

// Error tells both, for a reader of errors that does not ask for the parts.
func (f Fault) Error() string {
	return "refused with " + strconv.Itoa(int(f.Errno)) + " at " + strconv.Itoa(f.Place)
}
