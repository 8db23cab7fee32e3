package thicket_test

import (
	"fmt"
	"slices"
	"strings"
	"testing"

	"thicket/api"
	"thicket/thicket"
)

func expectNodes(t *testing.T, text, input string, want []api.Node) {
	t.Helper()
	nodes, errno := thicket.Tree(text, input)
	if !slices.Equal(nodes, want) || errno != api.OK {
		t.Errorf("Tree(%.100q, %q) = %v, %d, want %v", text, input, nodes, errno, want)
	}
}

// expectTree: want has the name and the bytes of each node, with a dot ahead for each use that it lies in.
func expectTree(t *testing.T, text, input, want string) {
	t.Helper()
	nodes, errno := thicket.Tree(text, input)
	if errno != api.OK {
		t.Errorf("Tree(%.100q, %q): the error %d", text, input, errno)
		return
	}
	rules, _ := thicket.Rules(text)
	var told []string
	for _, n := range nodes {
		told = append(told, fmt.Sprintf("%s%s:%d-%d", strings.Repeat(".", n.Depth), rules[n.Rule].Name, n.From, n.To))
	}
	if got := strings.Join(told, " "); got != want {
		t.Errorf("Tree(%.100q, %q) = %s, want %s", text, input, got, want)
	}
}

func TestTreeExample(t *testing.T) {
	expectTree(t, "s <- p* p <- &d d d? d <- [0-9]", "123x", "s:0-3 .p:0-2 ..d:0-1 ..d:1-2 .p:2-3 ..d:2-3")
}

// The choices stand for that of rule s, which uses the rules x, y, both (x y), any and maybe (x?).
func expectTrees(t *testing.T, cases [][3]string) {
	t.Helper()
	for _, c := range cases {
		expectTree(t, "s <- "+c[0]+" x <- 'x' y <- 'y' both <- x y any <- . maybe <- x?", c[1], c[2])
	}
}

func TestTreeOfUses(t *testing.T) {
	expectTrees(t, [][3]string{
		{"'x'", "x", "s:0-1"}, {"[x] .", "xy", "s:0-2"}, {"x", "x", "s:0-1 .x:0-1"}, {"x", "xx", "s:0-1 .x:0-1"}, {"'y' x", "yx", "s:0-2 .x:1-2"}, {"x y", "xy", "s:0-2 .x:0-1 .y:1-2"}, {"x x", "xx", "s:0-2 .x:0-1 .x:1-2"},
		{"both", "xy", "s:0-2 .both:0-2 ..x:0-1 ..y:1-2"}, {"both both y", "xyxyy", "s:0-5 .both:0-2 ..x:0-1 ..y:1-2 .both:2-4 ..x:2-3 ..y:3-4 .y:4-5"},
		{"x / y", "x", "s:0-1 .x:0-1"}, {"x / y", "y", "s:0-1 .y:0-1"}, {"x / any", "x", "s:0-1 .x:0-1"}, {"y / any / x", "x", "s:0-1 .any:0-1"},
		{"x? y?", "x", "s:0-1 .x:0-1"}, {"x? y?", "y", "s:0-1 .y:0-1"}, {"x*", "xxy", "s:0-2 .x:0-1 .x:1-2"}, {"x+ y", "xxy", "s:0-3 .x:0-1 .x:1-2 .y:2-3"}, {"(x / y)* any", "yx.", "s:0-3 .y:0-1 .x:1-2 .any:2-3"}, {"(x+ y)+", "xxyxy", "s:0-5 .x:0-1 .x:1-2 .y:2-3 .x:3-4 .y:4-5"},
		{"(((x)))", "x", "s:0-1 .x:0-1"}, {"((x) (y / both))", "xxy", "s:0-3 .x:0-1 .both:1-3 ..x:1-2 ..y:2-3"}, {"x s / y", "xxy", "s:0-3 .x:0-1 .s:1-3 ..x:1-2 ..s:2-3 ...y:2-3"},
	})
	expectTree(t, "a <- c d <- 'd' c <- d b b <- 'b'", "db", "a:0-2 .c:0-2 ..d:0-1 ..b:1-2")
	expectTree(t, "e <- t ('+' t)* t <- 'n' / '(' e ')'", "n+(n+n)", "e:0-7 .t:0-1 .t:2-7 ..e:3-6 ...t:3-4 ...t:5-6")
}

func TestTreeHasNoUsesThatTookNoBytes(t *testing.T) {
	expectTrees(t, [][3]string{
		{"", "", "s:0-0"}, {"", "x", "s:0-0"}, {"()", "x", "s:0-0"}, {"maybe", "", "s:0-0"}, {"maybe", "y", "s:0-0"}, {"maybe", "x", "s:0-1 .maybe:0-1 ..x:0-1"}, {"maybe maybe", "xy", "s:0-1 .maybe:0-1 ..x:0-1"}, {"maybe y maybe", "yx", "s:0-2 .y:0-1 .maybe:1-2 ..x:1-2"}, {"maybe y maybe", "xyy", "s:0-2 .maybe:0-1 ..x:0-1 .y:1-2"}, {"(y / maybe) y", "y", ""}, {"(maybe / y) y", "y", "s:0-1 .y:0-1"}, {"x? y*", "z", "s:0-0"}, {"x s / maybe", "xy", "s:0-1 .x:0-1"}, {"y s / maybe", "yyz", "s:0-2 .y:0-1 .s:1-2 ..y:1-2"}, {"&x", "x", "s:0-0"},
	})
	// A use that took no bytes has none in it that took some; it may have one ahead of it or behind it that did.
	expectTree(t, "a <- b 'x' b b <- c c c <- d? d <- !'x' .", "xyz", "a:0-3 .b:1-3 ..c:1-2 ...d:1-2 ..c:2-3 ...d:2-3")
	expectTree(t, "a <- b 'x' b b <- c c c <- d? d <- !'x' .", "x", "a:0-1")
}

func TestTreeHasNoUsesThatWereOnlyLookedAt(t *testing.T) {
	expectTrees(t, [][3]string{
		{"&x", "x", "s:0-0"}, {"&x .", "x", "s:0-1"}, {"&x x", "x", "s:0-1 .x:0-1"}, {"&both x", "xy", "s:0-1 .x:0-1"}, {"&(x y) both", "xy", "s:0-2 .both:0-2 ..x:0-1 ..y:1-2"}, {"x &y", "xy", "s:0-1 .x:0-1"}, {"x &y any", "xy", "s:0-2 .x:0-1 .any:1-2"}, {"&x+ .", "xx", "s:0-1"}, {"(&any x)*", "xxy", "s:0-2 .x:0-1 .x:1-2"}, {"&(&x any) .", "x", "s:0-1"}, {"&(x / y) &any any", "y", "s:0-1 .any:0-1"},
		{"!y", "x", "s:0-0"}, {"!y x", "x", "s:0-1 .x:0-1"}, {"!x any", "x", ""}, {"!(x x) any", "xy", "s:0-1 .any:0-1"}, {"!(x x) both", "xy", "s:0-2 .both:0-2 ..x:0-1 ..y:1-2"}, {"!(!x) any", "x", "s:0-1 .any:0-1"}, {"!(!both) .", "xy", "s:0-1"}, {"!(&x y) any", "x", "s:0-1 .any:0-1"}, {"(!y any)* y", "zxy", "s:0-3 .any:0-1 .any:1-2 .y:2-3"}, {"x !any / x any", "xx", "s:0-2 .x:0-1 .any:1-2"}, {"!x y / any", "x", "s:0-1 .any:0-1"},
	})
	// Looked at first, and then taken, at one place: what is remembered must not lose its uses, nor may they come twice.
	expectTrees(t, [][3]string{
		{"&(both) (both)", "xy", "s:0-2 .both:0-2 ..x:0-1 ..y:1-2"}, {"&both &both both", "xy", "s:0-2 .both:0-2 ..x:0-1 ..y:1-2"}, {"!(both x) both", "xy", "s:0-2 .both:0-2 ..x:0-1 ..y:1-2"},
	})
	expectTree(t, "s <- &p p p <- q 'x' q <- 'q'", "qx", "s:0-2 .p:0-2 ..q:0-1")
	expectTree(t, "s <- !(p p) p p <- q 'x' q <- 'q'", "qx", "s:0-2 .p:0-2 ..q:0-1")
}

func TestTreeHasNoUsesOfWhatCameToNothing(t *testing.T) {
	expectTrees(t, [][3]string{
		{"x x / x y", "xy", "s:0-2 .x:0-1 .y:1-2"}, {"x x / . y", "xy", "s:0-2 .y:1-2"}, {"x y x / both", "xyy", "s:0-2 .both:0-2 ..x:0-1 ..y:1-2"}, {"both x / both y", "xyy", "s:0-3 .both:0-2 ..x:0-1 ..y:1-2 .y:2-3"}, {"(x x / x) y", "xy", "s:0-2 .x:0-1 .y:1-2"}, {"x (y x / y) y", "xyy", "s:0-3 .x:0-1 .y:1-2 .y:2-3"},
		{"(x y)? x", "xx", "s:0-1 .x:0-1"}, {"(x y)? .", "xx", "s:0-1"}, {"(x y)* x", "xyxx", "s:0-3 .x:0-1 .y:1-2 .x:2-3"}, {"(x y)* .", "xyxx", "s:0-3 .x:0-1 .y:1-2"}, {"(x y)+ .", "xyxx", "s:0-3 .x:0-1 .y:1-2"}, {"(x y)+ / x any", "xx", "s:0-2 .x:0-1 .any:1-2"}, {"both+ / any any", "xx", "s:0-2 .any:0-1 .any:1-2"}, {"both* any", "xyxx", "s:0-3 .both:0-2 ..x:0-1 ..y:1-2 .any:2-3"}, {"both? any", "xx", "s:0-1 .any:0-1"},
		{"x+ 'z' / x+ y", "xxy", "s:0-3 .x:0-1 .x:1-2 .y:2-3"}, {"(x+ y x+)? any*", "xxyy", "s:0-4 .any:0-1 .any:1-2 .any:2-3 .any:3-4"}, {"(x (y x)? / y)*", "xyyxyx", "s:0-6 .x:0-1 .y:1-2 .y:2-3 .x:3-4 .y:4-5 .x:5-6"},
	})
	expectTree(t, "a <- b 'x' / c b <- d d c <- d 'e' / d d d <- .", "dd", "a:0-2 .c:0-2 ..d:0-1 ..d:1-2")
}

func TestTreeOfInputsOfWhichNothingComes(t *testing.T) {
	expectTrees(t, [][3]string{
		{"x", "", ""}, {"x", "y", ""}, {"x y", "xx", ""}, {"both", "xx", ""}, {"x / y", "z", ""}, {"x+", "yx", ""}, {"(x / y)+ !any", "xyz", ""}, {"x &y", "xx", ""}, {"x !x", "xx", ""}, {"!maybe", "", ""}, {"maybe any", "x", ""},
	})
}

// What is known of an expression is noted as deep as it is used, each time that it is.
func TestTreeOfWhatIsKnown(t *testing.T) {
	expectTree(t, "s <- a 'y' / b 'y' / c a <- b 'z' b <- c 'z' c <- d d <- 'd' 'e'", "de", "s:0-2 .c:0-2 ..d:0-2")
	expectTree(t, "s <- a / b a <- p 'x' b <- c c <- p 'y' p <- q q q <- 'q'", "qqy", "s:0-3 .b:0-3 ..c:0-3 ...p:0-2 ....q:0-1 ....q:1-2")
	expectTree(t, "s <- p 'x' / (p) 'y' / ((q)) p p <- q q <- .", "abc", "s:0-2 .q:0-1 .p:1-2 ..q:1-2")
	expectTree(t, "s <- p 'x' / q s / q p <- q+ q <- .", "abc", "s:0-3 .q:0-1 .s:1-3 ..q:1-2 ..s:2-3 ...q:2-3")
}

func TestTreeOfShortestAndLongestInputs(t *testing.T) {
	longest := strings.Repeat("x", api.MaxInput)
	for _, c := range []struct {
		choice      string
		none, whole int
	}{
		{"", 1, 1}, {".*", 1, 1}, {".+", 0, 1}, {"!.", 1, 0}, {"b*", 1, 1 + api.MaxInput}, {"b+", 0, 1 + api.MaxInput}, {"b+ !b", 0, 1 + api.MaxInput}, {"b+ b", 0, 0}, {"b a / c", 1, 1 + 2*api.MaxInput - 1}, {"(b b)*", 1, 1 + api.MaxInput}, {"c b?", 1, 2}, {"(&b &b 'x')*", 1, 1}, {"(b c)*", 1, 1 + api.MaxInput},
	} {
		text := "a <- " + c.choice + " b <- . c <- 'y'?"
		for input, want := range map[string]int{"": c.none, longest: c.whole} {
			if nodes, errno := thicket.Tree(text, input); len(nodes) != want || errno != api.OK {
				t.Errorf("Tree(%q, %d bytes): %d nodes, %d, want %d", text, len(input), len(nodes), errno, want)
			}
		}
	}
}

// chain gives as many rules as there may be, each of which uses the next one; end stands for the last one's choice.
func chain(end string) string {
	text := ""
	for i := range api.MaxRules - 1 {
		text += string(rune('a'+i)) + " <- " + string(rune('b'+i)) + "\n"
	}
	return text + string(rune('a'+api.MaxRules-1)) + " <- " + end
}

// There are no more nodes than this: each rule once at each byte.
func TestTreeOfMostNodes(t *testing.T) {
	input := strings.Repeat("x", api.MaxInput)
	var want []api.Node
	for i := range api.MaxRules * api.MaxInput {
		want = append(want, api.Node{Rule: i % api.MaxRules, From: i / api.MaxRules, To: api.MaxInput, Depth: i})
	}
	expectNodes(t, chain(". a?"), input, want)
}

// P2: a list is its owner's, with its spare room, and hangs on the arguments alone.
func TestTreesAreFreshLists(t *testing.T) {
	text, input := "s <- p* p <- &d d d? d <- [0-9]", "123456789"
	nodes := func() []api.Node {
		nodes, _ := thicket.Tree(text, input)
		return nodes
	}
	want := slices.Clone(nodes())
	if len(want) != 1+5+9 {
		t.Fatalf("Tree(%q, %q) = %v", text, input, want)
	}
	lists := [][]api.Node{nodes(), nodes(), nodes()}
	for k, list := range lists {
		full := list[:cap(list)]
		for i := range full {
			full[i] = api.Node{Rule: k, From: i, To: -1, Depth: -1}
		}
		if later := nodes(); !slices.Equal(later, want) {
			t.Errorf("a later list was changed: %v, want %v", later, want)
		}
	}
	for k, list := range lists {
		for i, node := range list[:cap(list)] {
			if node != (api.Node{Rule: k, From: i, To: -1, Depth: -1}) {
				t.Errorf("list %d was changed by another one: %v at %d", k, node, i)
			}
		}
	}
}

// expectTreeSoon: want is how many nodes there are.
func expectTreeSoon(t *testing.T, text, input string, want int) {
	t.Helper()
	soon(t, text, func() {
		nodes, errno := thicket.Tree(text, input)
		if len(nodes) != want || errno != api.OK {
			t.Errorf("Tree(%.100q, %d bytes): %d nodes, %d, want %d", text, len(input), len(nodes), errno, want)
		}
	})
}

func TestTreeEndsSoon(t *testing.T) {
	input := strings.Repeat("x", api.MaxInput)
	for _, c := range []struct {
		text string
		want int
	}{
		{"a <- . a 'y' / . a 'z' / . a / .", api.MaxInput},
		{"a <- b 'y' / b 'z' / b b <- . a 'w' / . a / .", 2 * api.MaxInput},
		{"a <- . (a 'y')? (a 'z')? a?", api.MaxInput},
		{"a <- . &a &a a / .", api.MaxInput},
		{"a <- . !(a 'y') !(a 'z') a / .", api.MaxInput},
		{"a <- . (a / a) (a / a)? / . !.", api.MaxInput},
		{"a <- (&(&(&(b* !.) b* !.) b* !.) b)* b <- .", 1 + api.MaxInput},
		{"a <- (!(!(!(b* 'y') b* 'y') b* 'y') b)* 'y' b <- .", 0},
	} {
		expectTreeSoon(t, c.text, input, c.want)
	}
}

// Rules that use the next one as often as a text has room for, whether it takes a byte or none.
func TestTreeOfManyEmptyUsesEndsSoon(t *testing.T) {
	text := ""
	for i := range api.MaxRules - 1 {
		text += string(rune('a'+i)) + "<-" + strings.Repeat(" "+string(rune('b'+i)), 40) + "\n"
	}
	text += string(rune('a'+api.MaxRules-1)) + "<-'x'?"
	// The bytes of each 40 lie in one use of the rule that uses the last one, of each 1600 in one of the rule ahead of it.
	for length, want := range map[int]int{0: 1, 1: 20, 2: 21, 40: 59, 41: 61, api.MaxInput: 18 + api.MaxInput/40 + api.MaxInput} {
		expectTreeSoon(t, text, strings.Repeat("x", length), want)
	}
}

// As many expressions as a text has room for, each of which notes as much as it can at every place.
func TestTreeOfTheLongestTextsEndsSoon(t *testing.T) {
	input := strings.Repeat("x", api.MaxInput)
	for _, c := range []struct {
		begin, again, end string
		want              int
	}{
		{"a<-(", "&b*", "b)*b<-.", 1 + api.MaxInput},
		{"a<-(", "&(b+)", "b)*b<-.", 1 + api.MaxInput},
		{"a<-", "b*'y'/", "b*b<-.", 1 + api.MaxInput},
		{"a<-.(", "a'y'/", "a)/.", api.MaxInput},
		{"a<-.(", "(a'y')?", "a)/.", api.MaxInput},
		{"a<-.a?", "()", "", api.MaxInput},
		{"a<-b+b<-.", "c?", "c<-'y'", 1 + api.MaxInput},
	} {
		times := (api.MaxText - len(c.begin) - len(c.end)) / len(c.again)
		expectTreeSoon(t, c.begin+strings.Repeat(c.again, times)+c.end, input, c.want)
	}
}
