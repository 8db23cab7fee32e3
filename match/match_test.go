package match

import (
	"slices"
	"testing"

	"thicket/api"
	"thicket/grammar"
	"thicket/sense"
)

func made(t *testing.T, text string) *Matcher {
	t.Helper()
	g, err := grammar.Read(text)
	if err != nil {
		t.Fatalf("%q: %v", text, err)
	}
	facts, err := sense.Look(g)
	if err != nil {
		t.Fatalf("%q: %v", text, err)
	}
	return Make(g, facts.Numbers)
}

// A matcher is made once; what one input made it remember is not true of the next.
func TestMatcherTakesOneInputBehindTheOther(t *testing.T) {
	m := made(t, "a <- 'x' a / b b <- !'z' [y]*")
	for _, c := range []struct {
		input string
		taken int
		ok    bool
	}{{"xyy", 3, true}, {"xz", 0, true}, {"", 0, true}, {"xyy", 3, true}, {"yx", 1, true}, {"z", 0, false}, {"w", 0, true}} {
		if use, ok := m.Take(c.input); use.Taken() != c.taken || ok != c.ok {
			t.Errorf("Take(%q) = %v, %v, want %d, %v", c.input, use, ok, c.taken, c.ok)
		}
		if m.input != "" || m.tried != nil || m.noted != nil {
			t.Errorf("Take(%q) left %q, %d spots and %v behind", c.input, m.input, len(m.tried), m.noted)
		}
	}
}

func TestExpressionsAreTriedOnceAtAPlace(t *testing.T) {
	m := maker{matcher: &Matcher{tried: map[spot]trial{}}}
	tries := map[spot]int{}
	counted := func(number int) expression {
		return m.remembered(func(place int) outcome {
			tries[spot{number, place}]++
			return outcome{place + number, place != 1}
		})
	}
	both := []expression{counted(0), counted(1)}
	for range 3 {
		for number, e := range both {
			for place := range 3 {
				want := outcome{place + number, place != 1}
				if came := e(place); came != want {
					t.Errorf("expression %d at %d: %v, want %v", number, place, came, want)
				}
			}
		}
	}
	if len(tries) != 6 {
		t.Errorf("tried at %d spots, want 6", len(tries))
	}
	for at, times := range tries {
		if times != 1 {
			t.Errorf("tried %d times at %v", times, at)
		}
	}
}

// P12: each expression of the grammar, of whatever kind, is one that is remembered.
func TestEveryExpressionIsRemembered(t *testing.T) {
	for _, c := range []struct {
		choice, input string
		want          int
	}{
		{"", "", 2},           // choice, sequence
		{"'x'", "x", 3},       // and the literal
		{"[x]", "x", 3},       // the class
		{".", "x", 3},         // the byte
		{"b", "x", 6},         // the name, and 3 of its rule
		{"('x')", "x", 5},     // a choice and a sequence more
		{"&'x'", "x", 4},      // the sign
		{"!'x'", "", 4},       // the sign
		{"'x'?", "", 4},       // the sign
		{"'x'+", "x", 6},      // the sign and the literal at 2 places
		{"'x'*", "x", 7},      // that, and the sign at the first of them
		{"'x' / 'y'", "", 5},  // 2 sequences, 2 literals
		{"'x' 'y'", "xy", 4},  // 2 literals
		{"'x' 'y'", "", 3},    // the second is not tried
		{"'x' / 'x'", "x", 3}, // nor here
	} {
		m := made(t, "a <- "+c.choice+" b <- 'x'")
		m.input, m.tried = c.input, map[spot]trial{}
		m.rules[0](0)
		if len(m.tried) != c.want {
			t.Errorf("%q: %d spots are remembered, want %d", c.choice, len(m.tried), c.want)
		}
	}
}

// What came to nothing has left nothing noted, nor has a look ahead; what took something is remembered with its uses.
func TestNotesInVainAreTakenBack(t *testing.T) {
	for _, c := range []struct {
		choice, input string
		want          int
	}{
		{"b", "x", 2}, {"b b", "xx", 3}, {"b b", "xy", 0}, {"b b / b", "xy", 2}, {"&b", "x", 1}, {"!b", "x", 0}, {"!b", "y", 1}, {"&b b", "x", 2}, {"!(b b) b", "x", 2}, {"(b b)? b", "xy", 2}, {"(b b)* b", "xxx", 4}, {"b+ 'y' / b", "xxx", 2}, {"b+", "xxx", 4},
	} {
		m := made(t, "a <- "+c.choice+" b <- 'x'")
		m.input, m.tried = c.input, map[spot]trial{}
		use, ok := m.use(0, 0)
		if m.noted != nil {
			t.Errorf("%q: %v is noted at the end", c.choice, m.noted)
		}
		for at, tried := range m.tried {
			if tried.noted != nil && (!tried.came.ok || tried.came.end == at.place) {
				t.Errorf("%q: at %v %v was noted in vain", c.choice, at, tried.noted)
			}
		}
		if !ok && use != (Use{}) || ok && len(use.Nodes()) != c.want {
			t.Errorf("%q: %v, %v, want %d nodes", c.choice, use, ok, c.want)
		}
	}
}

// A use may lie in many others, so listing it must leave it as it is.
func TestListingChangesNothing(t *testing.T) {
	inner := Use{rule: 2, from: 1, to: 2}
	outer := Use{rule: 1, from: 1, to: 3, within: joined(inner, Use{rule: 2, from: 2, to: 3})}
	whole := Use{to: 3, within: joined(joined(nil, outer), nil)}
	want := []api.Node{{Rule: 0, From: 0, To: 3, Depth: 0}, {Rule: 1, From: 1, To: 3, Depth: 1}, {Rule: 2, From: 1, To: 2, Depth: 2}, {Rule: 2, From: 2, To: 3, Depth: 2}}
	for range 2 {
		if got := whole.Nodes(); !slices.Equal(got, want) {
			t.Errorf("got %v, want %v", got, want)
		}
		if got := inner.Nodes(); len(got) != 1 || got[0].Depth != 0 {
			t.Errorf("got %v", got)
		}
	}
}
