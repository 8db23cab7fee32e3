package thicket

import (
	"thicket/api"
	"thicket/match"
)

// Reader reads an input, piece by piece, by a grammar.
type Reader struct {
	matcher *match.Matcher
	state   state
	input   []byte    // till it ends
	use     match.Use // behind its end: the one that it begins with
	ok      bool      // is there one?
}

// state is that of a reader's input. Readers that New did not give have none: they refuse every call, and do not panic.
type state byte

const (
	none state = iota
	open
	ended
)

// New gives a reader (P9).
func New(text string) (*Reader, api.Errno) {
	matcher, errno := made(text)
	if errno != api.OK {
		return nil, errno
	}
	return &Reader{matcher: matcher, state: open}, api.OK
}

// Feed hands in some bytes (P10).
func (r *Reader) Feed(piece string) api.Errno {
	if !r.is(open) {
		return api.ErrDone
	}
	if len(r.input)+len(piece) > api.MaxInput {
		return api.ErrFull
	}
	// The bytes are copied: the piece itself stays the caller's.
	r.input = append(r.input, piece...)
	return api.OK
}

// End says that the input has ended, and tells what Match tells (P10).
func (r *Reader) End() (int, bool, api.Errno) {
	if !r.is(open) {
		return 0, false, api.ErrDone
	}
	r.use, r.ok = r.matcher.Take(string(r.input))
	// Nodes lists the use that was found here: nothing is tried once more, and nobody asks for the bytes again.
	r.state, r.input = ended, nil
	return r.use.Taken(), r.ok, api.OK
}

// Nodes tells what Tree tells (P11).
func (r *Reader) Nodes() ([]api.Node, api.Errno) {
	if !r.is(ended) {
		return nil, api.ErrOpen
	}
	if !r.ok {
		return nil, api.OK
	}
	return r.use.Nodes(), api.OK
}

// Again makes the reader ready for another input (P11).
func (r *Reader) Again() api.Errno {
	if !r.is(ended) {
		return api.ErrOpen
	}
	*r = Reader{matcher: r.matcher, state: open}
	return api.OK
}

func (r *Reader) is(s state) bool {
	return r != nil && r.state == s
}
