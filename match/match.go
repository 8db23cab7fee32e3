// Package match: what a grammar takes off inputs, and the uses of its rules that this is made of.
package match

// Matcher is a grammar made into functions, which read the input from it: so it reads one input at a time, and as many as one likes, one behind the other.
type Matcher struct {
	rules []expression
	input string
	tried map[spot]trial
	noted notes
}

// expression is a function of the place at which it is tried; if it takes something, it notes the uses of rules that it took it by.
type expression func(place int) outcome

// outcome: where an expression ended, if it took something, be it no bytes; without ok it came to nothing.
type outcome struct {
	end int
	ok  bool
}

// spot: an expression, by its number, and a place of the input.
type spot struct {
	expression int
	place      int
}

// trial: what came of an expression, and what it noted.
type trial struct {
	came  outcome
	noted notes
}

// Take tries the first rule at the beginning of an input: its use, and true, or none and false.
func (m *Matcher) Take(input string) (Use, bool) {
	m.input, m.tried = input, map[spot]trial{}
	// What has been tried is true of this input alone, and nobody asks for it later.
	defer func() { m.input, m.tried = "", nil }()
	return m.use(0, 0)
}

// use tries a rule; the uses that it notes lie in its own.
func (m *Matcher) use(rule, place int) (Use, bool) {
	tried := m.apart(m.rules[rule], place)
	if !tried.came.ok {
		return Use{}, false
	}
	return Use{rule: rule, from: place, to: tried.came.end, within: tried.noted}, true
}

// once tries an expression, unless it has been tried at that place; what it noted then is noted again.
func (m *Matcher) once(number int, e expression, place int) outcome {
	at := spot{number, place}
	known, is := m.tried[at]
	if !is {
		known = m.apart(e, place)
		m.tried[at] = known
	}
	m.note(known.noted)
	return known.came
}

// apart tries an expression with nothing noted ahead of it, so that what it notes itself can be told; and leaves what is noted as it was.
func (m *Matcher) apart(e expression, place int) trial {
	defer m.takeBack(m.noted)
	m.noted = nil
	came := e(place)
	return trial{came, m.noted}
}

func (m *Matcher) note(more notes) {
	m.noted = joined(m.noted, more)
}

// takeBack makes that be noted which was noted before. Deferred ahead of the noting, it has what is noted there as its argument.
func (m *Matcher) takeBack(before notes) {
	m.noted = before
}
