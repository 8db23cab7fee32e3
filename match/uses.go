package match

import "thicket/api"

// notes are uses of rules, in the order in which they began; without any they are nil. They are shared and never changed, for what is remembered of an expression may become part of many others. How deep they lie is not known till they are listed.
type notes interface {
	list(l *listing)
}

// Use: a use of a rule, where it began and ended, and what lies in it.
type Use struct {
	rule, from, to int
	within         notes
}

// pair: uses, and those behind them.
type pair struct {
	first, second notes
}

func joined(first, second notes) notes {
	if first == nil {
		return second
	}
	if second == nil {
		return first
	}
	return pair{first, second}
}

// Taken tells how many bytes the use took.
func (u Use) Taken() int {
	return u.to - u.from
}

// Nodes lists the use, which lies in no other, and those in it.
func (u Use) Nodes() []api.Node {
	l := listing{}
	u.list(&l)
	return l.nodes
}

type listing struct {
	nodes []api.Node
	depth int
}

func (u Use) list(l *listing) {
	l.nodes = append(l.nodes, api.Node{Rule: u.rule, From: u.from, To: u.to, Depth: l.depth})
	l.depth++
	defer func() { l.depth-- }()
	if u.within != nil {
		u.within.list(l)
	}
}

func (p pair) list(l *listing) {
	p.first.list(l)
	p.second.list(l)
}
