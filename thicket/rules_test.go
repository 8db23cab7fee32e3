package thicket_test

import (
	"slices"
	"testing"

	"thicket/api"
	"thicket/thicket"
)

func TestRulesTellWhoMayTakeNothing(t *testing.T) {
	for _, c := range []struct {
		choice string
		want   bool
	}{
		{"", true}, {"()", true}, {"'x'", false}, {"[x]", false}, {".", false}, {"(.)", false},
		{".?", true}, {".*", true}, {".+", false}, {"()?", true}, {"(. ())+", false},
		{"&.", true}, {"!.", true}, {"&.+", true}, {"!('x' 'y')", true},
		{". .?", false}, {".? .", false}, {".? .*", true}, {"&. .", false}, {"&. !.", true},
		{". / .", false}, {". /", true}, {"/ .", true}, {". / .? / .", true}, {"(. / (. / .?))", true},
		{"none", false}, {"some", true}, {"none some", false}, {"none / some", true}, {"some some", true}, {"none+", false}, {"none*", true}, {"far", true}, {"far some", true}, {". round", false}, {"round", false},
	} {
		text := "a <- " + c.choice + " some <- .? none <- . far <- some some round <- . / none round"
		want := []api.Rule{{Name: "a", Empty: c.want}, {Name: "some", Empty: true}, {Name: "none"}, {Name: "far", Empty: true}, {Name: "round"}}
		if got, errno := thicket.Rules(text); errno != api.OK || !slices.Equal(got, want) {
			t.Errorf("Rules(%q) = %v, %d, want %v", text, got, errno, want)
		}
	}
}

func TestRulesStandInTheirOrder(t *testing.T) {
	text := manyRules(api.MaxRules)
	got, errno := thicket.Rules(text)
	if errno != api.OK || len(got) != api.MaxRules {
		t.Fatalf("Rules(%q) = %v, %d", text, got, errno)
	}
	for i, rule := range got {
		if want := (api.Rule{Name: "r" + string(rune('a'+i))}); rule != want {
			t.Errorf("rule %d is %v, want %v", i, rule, want)
		}
	}
}

// A chain that is told from its last rule back to its first one: what the last may do, all may.
func TestRulesFollowAChain(t *testing.T) {
	for _, c := range []struct {
		last string
		want bool
	}{{"e <- .", false}, {"e <- / .", true}} {
		text := "a <- b b <- c c <- d d <- e " + c.last
		got, errno := thicket.Rules(text)
		if errno != api.OK || len(got) != 5 {
			t.Fatalf("Rules(%q) = %v, %d", text, got, errno)
		}
		for _, rule := range got {
			if rule.Empty != c.want {
				t.Errorf("Rules(%q): %v, want %v", text, rule, c.want)
			}
		}
	}
}

// P2: the list is the caller's, with its spare room.
func TestRulesAreFreshLists(t *testing.T) {
	text := "a <- b b <- .? c <- ."
	first, _ := thicket.Rules(text)
	second, _ := thicket.Rules(text)
	want := slices.Clone(first)
	full := second[:cap(second)]
	for i := range full {
		full[i] = api.Rule{Name: "z", Empty: true}
	}
	if !slices.Equal(first, want) {
		t.Errorf("an earlier list was changed: %v, want %v", first, want)
	}
	if third, _ := thicket.Rules(text); !slices.Equal(third, want) {
		t.Errorf("a later list was changed: %v, want %v", third, want)
	}
}
