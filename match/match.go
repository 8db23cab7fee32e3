// Package match: what a grammar takes off inputs.
package match

// Matcher is a grammar made into functions, which read the input from it: so it reads one input at a time, and as many as one likes, one behind the other.
type Matcher struct {
	rules []expression
	input string
	tried map[spot]outcome
}

// expression is a function of the place at which it is tried.
type expression func(place int) outcome

// outcome: where an expression ended, if it took something, be it no bytes; without ok it came to nothing.
type outcome struct {
	end int
	ok  bool
}

// spot: an expression, by its number, and a place of the input.
type spot struct {
	expression int
	place      int
}

// Take tries the first rule at the beginning of an input: how many bytes it takes, and true; or 0 and false.
func (m *Matcher) Take(input string) (int, bool) {
	m.input, m.tried = input, map[spot]outcome{}
	// What has been tried is true of this input alone, and nobody asks for it later.
	defer func() { m.input, m.tried = "", nil }()
	came := m.rules[0](0)
	return came.end, came.ok
}

// once tries an expression, unless it has been tried at that place.
func (m *Matcher) once(number int, e expression, place int) outcome {
	at := spot{number, place}
	if came, known := m.tried[at]; known {
		return came
	}
	came := e(place)
	m.tried[at] = came
	return came
}
