package thicket_test

import (
	"strings"
	"testing"
	"time"

	"thicket/api"
	"thicket/thicket"
)

const nothing = -1

// expectMatch: want is how many bytes are taken, or nothing.
func expectMatch(t *testing.T, text, input string, want int) {
	t.Helper()
	taken, ok, errno := thicket.Match(text, input)
	if taken != max(want, 0) || ok != (want != nothing) || errno != api.OK {
		t.Errorf("Match(%.100q, %q) = %d, %v, %d, want %d", text, input, taken, ok, errno, want)
	}
}

func TestMatchExamples(t *testing.T) {
	expectMatch(t, "a <- 'x' a / 'y'", "xxyz", 3)
	expectMatch(t, "a <- 'x' a / 'y'", "xxz", nothing)
	expectMatch(t, "a <- 'a' / 'ab'", "ab", 1)
	expectMatch(t, "a <- ('a' / 'ab') 'c'", "abc", nothing)
	expectMatch(t, "a <- (!'b' .)*", "aab", 2)
	expectMatch(t, "a <- &'ab' 'a'", "ab", 1)
	expectMatch(t, "a <- &'ab' 'a'", "ac", nothing)
}

func TestMatchPieces(t *testing.T) {
	for _, c := range []struct {
		choice, input string
		want          int
	}{
		{"'x'", "x", 1}, {"'x'", "xx", 1}, {"'x'", "", nothing}, {"'x'", "y", nothing}, {"'x'", "yx", nothing}, {"'x'", "X", nothing},
		{"'xyz'", "xyzw", 3}, {"'xyz'", "xy", nothing}, {"'xyz'", "xyw", nothing}, {"'abcdefghijklmnopqrst'", "abcdefghijklmnopqrstu", 20},
		{`'\n\t\\\''`, "\n\t\\'", 4}, {`'\\n'`, "\\n", 2}, {`'\\n'`, "\n", nothing}, {"'\x00\xff'", "\x00\xff", 2}, {"' # '", " # ", 3},
		{"[x]", "x", 1}, {"[x]", "xx", 1}, {"[x]", "", nothing}, {"[x]", "w", nothing}, {"[x]", "y", nothing},
		{"[b-d]", "a", nothing}, {"[b-d]", "b", 1}, {"[b-d]", "c", 1}, {"[b-d]", "d", 1}, {"[b-d]", "e", nothing}, {"[b-b]", "b", 1},
		{"[adg-i]", "d", 1}, {"[adg-i]", "h", 1}, {"[adg-i]", "e", nothing}, {"[adg-i]", "-", nothing}, {`[a\-d]`, "-", 1}, {`[a\-d]`, "c", nothing},
		{"[^a]", "^", 1}, {"[^a]", "b", nothing}, {`[\n\t\\\]]`, "n", nothing}, {"[\x80-\xff]", "\x7f", nothing}, {"[\x00-\x7f]", "\x80", nothing},
		{".", "x", 1}, {".", "", nothing}, {".", "\n", 1}, {".", "\x00", 1}, {".", "\xff", 1}, {".", "é", 1}, {". .", "x", nothing}, {". .", "xy", 2},
		{"b", "x", nothing}, {"b", "yz", 2}, {"c", "yzx", 3}, {"c", "yz", nothing}, {"later", "w", 1}, {"()", "x", 0}, {"('x')", "x", 1}, {"((('x')) 'y')", "xy", 2},
	} {
		expectMatch(t, "a <- "+c.choice+" b <- 'yz' c <- b 'x' later <- last last <- 'w'", c.input, c.want)
	}
}

func TestMatchSequencesAndChoices(t *testing.T) {
	for _, c := range []struct {
		choice, input string
		want          int
	}{
		{"", "", 0}, {"", "x", 0}, {"/ 'x'", "x", 0}, {"'x' /", "x", 1}, {"'x' /", "y", 0}, {"/", "", 0},
		{"'x' 'y' 'z'", "xyz", 3}, {"'x' 'y' 'z'", "xy", nothing}, {"'x' 'y' 'z'", "yz", nothing}, {"'x' 'y' 'z'", "xz", nothing},
		{"'x' / 'y' / 'z'", "z", 1}, {"'x' / 'y' / 'z'", "y", 1}, {"'x' / 'y' / 'z'", "w", nothing},
		{"'x' / 'xy'", "xy", 1}, {"'xy' / 'x'", "xy", 2}, {"'xy' / 'x'", "xz", 1},
		{"'x' 'y' / 'x' 'z'", "xz", 2}, {"('x' / 'xy') 'z'", "xyz", nothing}, {"('xy' / 'x') 'z'", "xyz", 3}, {"('x' 'y' / 'x') 'z'", "xz", 2},
		{"('x' / ) 'x'", "x", nothing}, {"( / 'x') 'x'", "x", 1}, {"() 'x' ()", "x", 1},
	} {
		expectMatch(t, "a <- "+c.choice, c.input, c.want)
	}
}

func TestMatchSigns(t *testing.T) {
	for _, c := range []struct {
		choice, input string
		want          int
	}{
		{"'x'?", "", 0}, {"'x'?", "y", 0}, {"'x'?", "xx", 1}, {"'x'? 'x'", "x", nothing}, {"'x'? 'x'", "xx", 2}, {"'x'? 'y'", "y", 1}, {"('x' 'y')?", "xz", 0}, {"('x'?)?", "x", 1}, {"()?", "x", 0},
		{"'x'*", "", 0}, {"'x'*", "yx", 0}, {"'x'*", "xxxyx", 3}, {"'x'* 'x'", "xxx", nothing}, {"'x'* 'y'", "xxy", 3}, {"'x'* 'y'", "y", 1}, {"('x' 'y')*", "xyxyxz", 4}, {"('x' / 'y' 'z')*", "xyzyx", 3}, {"('x'+ 'y')*", "xxyxyx", 5}, {"('x' 'y'*)*", "xyyxxyz", 6}, {"('x'*)?", "xx", 2},
		{"'x'+", "", nothing}, {"'x'+", "yx", nothing}, {"'x'+", "x", 1}, {"'x'+", "xxxyx", 3}, {"'x'+ 'x'", "xxx", nothing}, {"'x'+ 'y'", "y", nothing}, {"('x' 'y')+ 'x'", "xyxyx", 5}, {"('x' 'y')+", "xz", nothing}, {"('x'+)+", "xxy", 2}, {"('x' 'x')+", "xxx", 2},
		{"&'x'", "x", 0}, {"&'x'", "y", nothing}, {"&'x'", "", nothing}, {"&()", "", 0}, {"&'x'? 'y'", "y", 1}, {"&'x'+ 'x'", "xx", 1}, {"&'x'+", "y", nothing}, {"&'x'*", "", 0}, {"&'xy' . 'y'", "xy", 2}, {"&(. 'y') .", "xz", nothing}, {"&(&'x')", "x", 0}, {"&(!'x')", "x", nothing}, {". &'y'", "xy", 1}, {". &'y'", "xx", nothing},
		{"!'x'", "x", nothing}, {"!'x'", "y", 0}, {"!'x'", "", 0}, {"!()", "", nothing}, {"!'x'? 'y'", "y", nothing}, {"!'x'+ 'y'", "y", 1}, {"!'x'+", "x", nothing}, {"!'x'*", "", nothing}, {"!.", "", 0}, {"!.", "x", nothing}, {"!(. 'y') .", "xz", 1}, {"!(!'x')", "x", 0}, {"!(&'x')", "x", nothing}, {". !'y'", "xy", nothing}, {". !'y'", "xx", 1}, {"(!'.' .)* '.'", "ab.c", 3},
	} {
		expectMatch(t, "a <- "+c.choice, c.input, c.want)
	}
}

func TestMatchGrammarsOfSeveralRules(t *testing.T) {
	sums := "s <- e !. e <- t ('+' t)* t <- f ('*' f)* f <- [0-9]+ / '(' e ')'"
	for input, want := range map[string]int{"1": 1, "(1+22)*3+4": 10, "((((7))))": 9, "": nothing, "(1+2": nothing, "1+": nothing, "1+2)": nothing} {
		expectMatch(t, sums, input, want)
	}
	alike := "s <- &(x 'c') 'a'+ y !. x <- 'a' x? 'b' y <- 'b' y? 'c'"
	for input, want := range map[string]int{"abc": 3, "aabbcc": 6, "aabbc": nothing, "aabcc": nothing, "abbcc": nothing, "aabbccc": nothing, "": nothing} {
		expectMatch(t, alike, input, want)
	}
	// The first rule counts, wherever the others stand and whether they are used.
	expectMatch(t, "a <- c b <- 'x' c <- 'y'", "x", nothing)
	expectMatch(t, "a <- c b <- 'x' c <- 'y'", "y", 1)
	chain := ""
	for i := range api.MaxRules - 1 {
		chain += "r" + string(rune('a'+i)) + " <- [a-z] r" + string(rune('b'+i)) + " / '.'\n"
	}
	chain += "r" + string(rune('a'+api.MaxRules-1)) + " <- 'end'"
	expectMatch(t, chain, strings.Repeat("q", api.MaxRules-1)+"end", api.MaxRules+2)
	expectMatch(t, chain, "qq.", 3)
	expectMatch(t, chain, strings.Repeat("q", api.MaxRules)+"end", nothing)
}

// Each byte, by each piece that may take it: bytes are no runes.
func TestMatchTakesBytes(t *testing.T) {
	for i := range 256 {
		input := string([]byte{byte(i), byte(i)})
		expectMatch(t, "a <- .", input, 1)
		expectMatch(t, "a <- [\x00-\xff]+", input, 2)
		low := nothing
		if i >= 0x41 && i <= 0xa0 {
			low = 2
		}
		expectMatch(t, "a <- [\x41-\xa0]+", input, low)
		if strings.IndexByte("'\\\n", byte(i)) < 0 {
			expectMatch(t, "a <- '"+input+"'", input, 2)
		}
	}
}

func TestMatchOfShortestAndLongestInputs(t *testing.T) {
	longest := strings.Repeat("x", api.MaxInput)
	for _, c := range []struct {
		choice      string
		none, whole int
	}{
		{".*", 0, api.MaxInput}, {".+", nothing, api.MaxInput}, {".+ !.", nothing, api.MaxInput}, {"'x'* 'x'", nothing, nothing}, {"", 0, 0}, {"!.", 0, nothing}, {"'x' a / !.", 0, api.MaxInput}, {"'x' a / 'y'", nothing, nothing}, {"('xx' 'xx' 'x')*", 0, api.MaxInput}, {"'xxx'*", 0, api.MaxInput - api.MaxInput%3},
	} {
		text := "a <- " + c.choice
		expectMatch(t, text, "", c.none)
		expectMatch(t, text, longest, c.whole)
	}
}

func TestErrorsOfMatchAndTree(t *testing.T) {
	longest := strings.Repeat("x", api.MaxInput)
	full := "a <- ." + strings.Repeat(" ", api.MaxText-6)
	for _, c := range []struct {
		text string
		want api.Errno
	}{
		{full, api.OK}, {full + " ", api.ErrLong}, {"", api.ErrSyntax}, {"a <-- .", api.ErrSyntax}, {"a <- (((((((.)))))))", api.ErrDeep}, {manyRules(api.MaxRules + 1), api.ErrRules},
		{"a <- . a <- .", api.ErrTwice}, {"a <- b", api.ErrUnknown}, {"a <- .??", api.ErrSyntax}, {"a <- (.?)*", api.ErrLoop}, {"a <- a", api.ErrLeft}, {"a <- . b <- .? b", api.ErrLeft},
	} {
		for _, input := range []string{"", "x", longest, longest + "x", strings.Repeat("x", 3000)} {
			want := c.want
			if want == api.OK && len(input) > api.MaxInput {
				want = api.ErrLong
			}
			taken, ok, errno := thicket.Match(c.text, input)
			if errno != want || want != api.OK && (taken != 0 || ok) {
				t.Errorf("Match(%.50q, %d bytes) = %d, %v, %d, want the error %d", c.text, len(input), taken, ok, errno, want)
			}
			nodes, errno := thicket.Tree(c.text, input)
			if errno != want || (nodes != nil) != ok {
				t.Errorf("Tree(%.50q, %d bytes) = %v, %d, want the error %d", c.text, len(input), nodes, errno, want)
			}
		}
	}
}

// P2: what was asked before makes no difference.
func TestMatchHangsOnItsArgumentsAlone(t *testing.T) {
	for range 3 {
		expectMatch(t, "a <- 'x' a / 'y'", "xxy", 3)
		expectMatch(t, "a <- 'x' a / 'y'", "xxz", nothing)
		expectMatch(t, "a <- 'x' a / 'z'", "xxz", 3)
		expectMatch(t, "a <- 'x' a / 'z'", "xxy", nothing)
	}
}

// expectSoon fails, and does not wait, if a match would take for ever.
func expectSoon(t *testing.T, text, input string, want int) {
	t.Helper()
	soon(t, text, func() { expectMatch(t, text, input, want) })
}

func soon(t *testing.T, text string, do func()) {
	t.Helper()
	done := make(chan bool)
	go func() {
		do()
		close(done)
	}()
	select {
	case <-done:
	case <-time.After(time.Minute):
		t.Fatalf("by %.100q it does not end", text)
	}
}

func TestMatchEndsSoon(t *testing.T) {
	input := strings.Repeat("x", api.MaxInput)
	brackets := strings.Repeat("(", 2*api.MaxInput)
	for _, c := range []struct {
		text string
		want int
	}{
		{"a <- . a 'y' / . a 'z' / .", 1},
		{"a <- b 'y' / b 'z' / b b <- . a 'w' / . a / .", api.MaxInput},
		{"a <- . (a 'y')? (a 'z')? a?", api.MaxInput},
		{"a <- . &a &a a / .", api.MaxInput},
		{"a <- . !(a 'y') !(a 'z') a / .", api.MaxInput},
		{"a <- . (a / a) (a / a)? / . !.", api.MaxInput},
		{"a <- (&(&(&(.* !.) .* !.) .* !.) .)*", api.MaxInput},
		{"a <- (!(!(!(.* 'y') .* 'y') .* 'y') .)* 'y'", nothing},
		{"a <- (. a 'y')* (. a 'z')+ / .", 1},
	} {
		expectSoon(t, c.text, input, c.want)
	}
	expectSoon(t, "e <- t '+' e / t '-' e / t t <- f '*' t / f '/' t / f f <- '(' e ')' / 'x'", brackets[:api.MaxInput], nothing)
	half := api.MaxInput/2 - 1
	expectSoon(t, "e <- t '+' e / t '-' e / t t <- f '*' t / f '/' t / f f <- '(' e ')' / 'x'", brackets[:half]+"x"+strings.Repeat(")", half), 2*half+1)
}

// As many expressions as a text has room for, each of them tried at every place.
func TestMatchOfTheLongestTextsEndsSoon(t *testing.T) {
	input := strings.Repeat("x", api.MaxInput)
	for _, c := range []struct {
		begin, again, end string
		want              int
	}{
		{"a<-(", "&.*", ".)*", api.MaxInput},
		{"a<-(", "!'y'", ".)+", api.MaxInput},
		{"a<-.(", "&a/", "a)/.", 1},
		{"a<-.a?", "()", "", api.MaxInput},
		{"a<-", "(.a)?", "", api.MaxInput},
	} {
		times := (api.MaxText - len(c.begin) - len(c.end)) / len(c.again)
		expectSoon(t, c.begin+strings.Repeat(c.again, times)+c.end, input, c.want)
	}
}

// Rules within rules within brackets, as deep as they go, at each byte of the input.
func TestMatchGoesDeep(t *testing.T) {
	text := ""
	for i := range api.MaxRules {
		next := string(rune('b' + i))
		if i == api.MaxRules-1 {
			next = ".a?"
		}
		text += string(rune('a'+i)) + "<-" + strings.Repeat("(", api.MaxDepth) + next + strings.Repeat(")", api.MaxDepth) + "\n"
	}
	expectSoon(t, text, strings.Repeat("x", api.MaxInput), api.MaxInput)
}
