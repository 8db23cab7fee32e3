package thicket_test

import (
	"strings"
	"testing"

	"thicket/api"
	"thicket/thicket"
)

// expectCheck holds Print, Rules, Match, Tree and New to the same error, with nothing beside it (P1, P5 to P9).
func expectCheck(t *testing.T, text string, want api.Errno, place int) {
	t.Helper()
	if errno, at := thicket.Check(text); errno != want || at != place {
		t.Errorf("Check(%.100q) = %d, %d, want %d, %d", text, errno, at, want, place)
	}
	printed, errno := thicket.Print(text)
	if errno != want || (printed != "") != (want == api.OK) {
		t.Errorf("Print(%.100q) = %.100q, %d, want the error %d", text, printed, errno, want)
	}
	rules, errno := thicket.Rules(text)
	if errno != want || (rules != nil) != (want == api.OK) {
		t.Errorf("Rules(%.100q) = %v, %d, want the error %d", text, rules, errno, want)
	}
	taken, ok, errno := thicket.Match(text, "x")
	if errno != want || want != api.OK && (taken != 0 || ok) {
		t.Errorf("Match(%.100q, \"x\") = %d, %v, %d, want the error %d", text, taken, ok, errno, want)
	}
	nodes, errno := thicket.Tree(text, "x")
	if errno != want || (nodes != nil) != ok {
		t.Errorf("Tree(%.100q, \"x\") = %v, %d, want the error %d", text, nodes, errno, want)
	}
	reader, errno := thicket.New(text)
	if errno != want || (reader != nil) != (want == api.OK) {
		t.Errorf("New(%.100q) = %v, %d, want the error %d", text, reader, errno, want)
	}
}

// manyRules gives so many rules of 8 bytes each: the arrow is byte 3 of each.
func manyRules(count int) string {
	text := ""
	for i := range count {
		text += "r" + string(rune('a'+i)) + " <- .\n"
	}
	return text
}

func TestCheckTakesGrammars(t *testing.T) {
	for _, text := range []string{
		"a <- 'x' a / 'y'", "a <-", "a<-", "a <- b <- 'x'", "a <- /", "a <- // .", "a <- (/)()", "a <- ! . & .",
		"a <- . b b <- .", "a <- (b)+ b <- .", "a <- .b b <- .", "a <- .\tb\r\nb#<-\n<- .#", "\n\n# a\na#\n<-#\n.",
		`a <- '\n\t\\\'' [\n\t\\\]\-]`, "a <- '-[]#\x00\xff\r\t'", "a <- ['#[/ \t\r\x00-\xff]", "a <- [a-a] [\\--\\]] [!-\\-]",
		"a <- 'x''y'[a][b]..",
	} {
		expectCheck(t, text, api.OK, 0)
	}
}

func TestCheckTellsWhereTheSyntaxEnds(t *testing.T) {
	for _, c := range []struct {
		text  string
		place int
	}{
		{"", 0}, {"  \t", 3}, {"# nothing", 9}, {"#", 1}, {"a", 1}, {"a ", 2}, {"a # <- .\n", 9},
		{"a <- (", 6}, {"a <- (b", 7}, {"a <- (b /\n", 10}, {"a <- (.) (", 10}, {"a <- !", 6}, {"a <- . & #", 10}, {"a <- ((.)", 9},
		{"<-", 0}, {"/", 0}, {"(", 0}, {")", 0}, {"'x'", 0}, {".", 0}, {"&a <- .", 0}, {"1", 0},
		{"a 'x'", 2}, {"a b <- .", 2}, {"a / <- .", 2}, {"a (b) <- .", 2}, {"a b1", 2}, {"a a-", 2},
		{"a <- <- .", 5}, {"a <- . <- .", 7}, {"a <- b <- <- .", 10}, {"a <- b* <- .", 8}, {"a <- (b) <- .", 9},
		{"a <- &b <- .", 8}, {"a <- . !b <- .", 10}, {"a <- (b <- .)", 8}, {"a <- (. / b <- .)", 12}, {"a <- ((b) c <- .)", 12},
		{"a <- )", 5}, {"a <- (.))", 8}, {"a <- . )", 7}, {"a <- . b <- )", 12},
		{"a <- &!b", 6}, {"a <- &&b", 6}, {"a <- !/", 6}, {"a <- (!)", 7}, {"a <- & <- .", 7}, {"a <- &?", 6},
		{"a <- ?", 5}, {"a <- / *", 7}, {"a <- (+)", 6}, {"a <- b**", 7}, {"a <- .?+", 7}, {"a <- ()?*", 8}, {"a <- 'x'+ ?", 10},
	} {
		expectCheck(t, c.text, api.ErrSyntax, c.place)
	}
}

func TestCheckTellsWhereNoTokenBegins(t *testing.T) {
	for _, token := range []string{
		"'", "''", "'x", "'x\n'", `'\`, `'\'`, `'\x'`, `'\]'`, `'\-'`, `'\r'`, `'\"'`, "''x'",
		"[", "[]", "[x", "[x\n]", `[\`, `[\]`, `[\x]`, `[\']`, "[-]", "[-x]", "[x-]", "[x--]", "[x-y-z]", "[b-a]", `[a-\n]`, `[a-\x]`, "[\xff-\x00]", "[]]",
		"<", "< -", "-", "]", "}", "A", "Z", "0", "_", "\"", "\\", "`", "{", "\x00", "\v", "\f", "\xa0", "\xff", "é", "=", ",", ";", ":", ">", "->",
	} {
		expectCheck(t, "a <- . "+token, api.ErrSyntax, 7)
		expectCheck(t, "a <- (. "+token+" )", api.ErrSyntax, 8)
		expectCheck(t, "a <- b # c\n"+token, api.ErrSyntax, 11)
		expectCheck(t, token, api.ErrSyntax, 0)
	}
}

func TestCheckHoldsToTheLimits(t *testing.T) {
	rest := strings.Repeat("#", api.MaxText-6)
	expectCheck(t, "a <- ."+rest, api.OK, 0)
	expectCheck(t, "a <- ."+rest+"#", api.ErrLong, 0)
	expectCheck(t, rest+"######", api.ErrSyntax, api.MaxText)
	expectCheck(t, "]"+strings.Repeat(" ", api.MaxText), api.ErrLong, 0)

	name := strings.Repeat("n", api.MaxName)
	expectCheck(t, name+" <- . "+name, api.OK, 0)
	expectCheck(t, name+"n <- .", api.ErrSyntax, 0)
	expectCheck(t, name+" <- . "+name+"n", api.ErrSyntax, api.MaxName+6)

	items := strings.Repeat("x", api.MaxItems)
	escapes := strings.Repeat(`\n`, api.MaxItems)
	spans := strings.Repeat("!-~", api.MaxItems)
	for _, c := range []struct{ open, inner, close string }{{"'", items, "'"}, {"'", escapes, "'"}, {"[", items, "]"}, {"[", escapes, "]"}, {"[", spans, "]"}} {
		expectCheck(t, "a <- "+c.open+c.inner+c.close, api.OK, 0)
		expectCheck(t, "a <- "+c.open+c.inner+"x"+c.close, api.ErrSyntax, 5)
	}
}

func TestCheckHoldsToTheDepth(t *testing.T) {
	open, closed := strings.Repeat("(", api.MaxDepth), strings.Repeat(")", api.MaxDepth)
	expectCheck(t, "a <- "+open+closed, api.OK, 0)
	expectCheck(t, "a <- "+open+closed+open+closed, api.OK, 0)
	expectCheck(t, "a <- "+open+closed+" b <- "+open+closed, api.OK, 0)
	expectCheck(t, "a <- "+open, api.ErrSyntax, 5+api.MaxDepth)
	expectCheck(t, "a <- "+open+"(", api.ErrDeep, 5+api.MaxDepth)
	expectCheck(t, "a <- "+open+". / !(", api.ErrDeep, 5+api.MaxDepth+5)
	expectCheck(t, "a <- "+open+")()(", api.ErrSyntax, 5+api.MaxDepth+4)
	expectCheck(t, "a <- "+open+")((", api.ErrDeep, 5+api.MaxDepth+2)
	expectCheck(t, "a <- "+open+" * (", api.ErrSyntax, 5+api.MaxDepth+1)
	expectCheck(t, "a <- "+open+" ( ]", api.ErrDeep, 5+api.MaxDepth+1)
}

func TestCheckHoldsToTheNumberOfRules(t *testing.T) {
	full := manyRules(api.MaxRules)
	expectCheck(t, full, api.OK, 0)
	expectCheck(t, full+"z <- ]", api.ErrRules, len(full)+2)
	expectCheck(t, full+"z <- . y <- .", api.ErrRules, len(full)+2)
	expectCheck(t, full+"z", api.ErrUnknown, api.MaxRules-1)
	expectCheck(t, full+"&z <- .", api.ErrSyntax, len(full)+3)
	expectCheck(t, full+"<- .", api.ErrSyntax, len(full))
	expectCheck(t, full+"] z <- .", api.ErrSyntax, len(full))
	expectCheck(t, full+"(z <- .)", api.ErrSyntax, len(full)+3)
}

func TestCheckTellsOfRules(t *testing.T) {
	for _, c := range []struct {
		text  string
		want  api.Errno
		place int
	}{
		{"a <- . a <- .", api.ErrTwice, 1},
		{"a <- z b <- . b <- . a <- .", api.ErrTwice, 2},
		{"a <- a b <- ()* c <- z d <- . d <-", api.ErrTwice, 4},
		{"a <- b", api.ErrUnknown, 0},
		{"a <- .* b <- . / (a &(. !(c)?))", api.ErrUnknown, 1},
		{"a <- aa", api.ErrUnknown, 0},
		{"a <- a b <- ()* c <- z", api.ErrUnknown, 2},
		{"a <- . b <- 'x' / 'y' (z)", api.ErrUnknown, 1},
		{"a <- ('x'?)*", api.ErrLoop, 0},
		{"a <- ('x'*)*", api.ErrLoop, 0},
		{"a <- ('x'*)+", api.ErrLoop, 0},
		{"a <- ()+", api.ErrLoop, 0},
		{"a <- . / . (. &(. (. /)*))", api.ErrLoop, 0},
		{"a <- (&. !.)*", api.ErrLoop, 0},
		{"a <- . b <- (. / &.)+", api.ErrLoop, 1},
		{"a <- . b* b <- c? c <- .", api.ErrLoop, 0},
		{"a <- . b <- !(c+) c <- d d <- / .", api.ErrLoop, 1},
		{"a <- a b <- . c+ c <-", api.ErrLoop, 1},
		{"a <- ('x'+)*", api.OK, 0},
		{"a <- (. .?)* (&. .)+ (.)?", api.OK, 0},
		{"a <- (()?)? &(()) !()", api.OK, 0},
		{"a <- b* b <- . c c <- b?", api.OK, 0},
		{"a <- . a+ b <- (. b / . a)*", api.OK, 0},
		{"a <- a", api.ErrLeft, 0},
		{"a <- b* b <- b", api.ErrLeft, 1},
		{"a <- . / . / a", api.ErrLeft, 0},
		{"a <- () a", api.ErrLeft, 0},
		{"a <- (. / ) a", api.ErrLeft, 0},
		{"a <- .? .* a", api.ErrLeft, 0},
		{"a <- &. !. a", api.ErrLeft, 0},
		{"a <- &a .", api.ErrLeft, 0},
		{"a <- !a .", api.ErrLeft, 0},
		{"a <- a? .", api.ErrLeft, 0},
		{"a <- .+ a", api.OK, 0},
		{"a <- (.?)? a", api.ErrLeft, 0},
		{"a <- . a a", api.OK, 0},
		{"a <- . (a) / .", api.OK, 0},
		{"a <- (. / () ()) (((a)))", api.ErrLeft, 0},
		{"a <- (. a)* . a", api.OK, 0},
		{"a <- b 'x' b <- !'y' a", api.ErrLeft, 0},
		{"a <- 'x' b b <- b 'y'", api.ErrLeft, 1},
		{"a <- b c c <- . b <- d d <- c / . a b", api.OK, 0},
		{"a <- . b <- c c <- d d <- e e <- c", api.ErrLeft, 2},
		{"e <- d d <- c c <- b b <- a a <- e", api.ErrLeft, 0},
		{"a <- . b <- e c <- b d <- c e <- d", api.ErrLeft, 1},
		{"a <- b a b <- c? c <- .", api.ErrLeft, 0},
		{"a <- b a b <- c c <- .", api.OK, 0},
		{"a <- . b <- c b c <- d* d <- .", api.ErrLeft, 1},
	} {
		expectCheck(t, c.text, c.want, c.place)
	}
}
