package derive

import (
	"cmp"
	"slices"

	"withy/api"
	"withy/share"
)

// node is the number of an expression in a shop.
type node int

// These expressions have the same numbers in all shops.
const (
	nothing node = iota // no expression: a Sub that is not used, or what is too large
	none                // RNone
	empty               // REps
	all                 // RNot of RNone
)

// form is an expression, by the numbers of its Subs. What is the index of its atom (of RTree), or its definition (of RRef).
type form struct {
	op   api.ReOp
	what int
	subs [2]node
}

// item is an expression in a shop, and what is known of it.
type item struct {
	form
	size  int    // how many expressions it has, as far as they are not too many
	null  bool   // whether it has the empty forest
	atoms letter // those of its expressions, and of what these name
}

// step is an expression, and what it is told of the next tree.
type step struct {
	of node
	by letter
}

// shop stores expressions, each once: the same ones have the same number. So what is large because it has the same parts many times takes no time, and no memory.
type shop struct {
	checked
	items  []item
	nodes  map[form]node
	bodies []node // the normal forms of the Bodies
	steps  map[step]node
	rules  [share.ReOps]rule
}

// rule is what is done with the expressions of a kind.
type rule struct {
	normal func(s *shop, f form) node  // the normal form of one whose Subs have theirs
	left   func(b behind, f form) node // the derivative of one in normal form
}

func newShop(c checked) *shop {
	s := &shop{checked: c, items: make([]item, 1), nodes: map[form]node{}, steps: map[step]node{}}
	s.rules = [share.ReOps]rule{
		api.RNone: {(*shop).store, behind.none},
		api.REps:  {(*shop).store, behind.none},
		api.RTree: {(*shop).store, behind.tree},
		api.RSeq:  {(*shop).sequence, behind.sequence},
		api.RAlt:  {(*shop).choice, behind.same},
		api.RStar: {(*shop).star, behind.star},
		api.RAnd:  {(*shop).both, behind.same},
		api.RNot:  {(*shop).not, behind.same},
		api.RMix:  {(*shop).mix, behind.mix},
		api.RRef:  {(*shop).store, behind.body},
	}
	for _, f := range []form{{op: api.RNone}, {op: api.REps}, {op: api.RNot, subs: [2]node{none}}} {
		s.store(f)
	}
	for _, d := range c.Defs {
		body := s.normal(d.Body)
		s.bodies = append(s.bodies, body)
	}
	return s
}

// store returns the number of an expression. It has it from now on.
func (s *shop) store(f form) node {
	if x, is := s.nodes[f]; is {
		return x
	}
	x := node(len(s.items))
	s.items = append(s.items, item{f, s.size(f), s.null(f), s.within(f)})
	s.nodes[f] = x
	return x
}

// total returns the sum of the numbers that are told of some expressions.
func total(tell func(x node) int, l ...node) int {
	sum := 0
	for _, x := range l {
		sum += tell(x)
	}
	return sum
}

// size returns how many expressions an expression has, or a number that is too large.
func (s *shop) size(f form) int {
	return min(1+total(func(x node) int { return s.items[x].size }, f.subs[:]...), api.MaxDerived+1)
}

// null is whether an expression has the empty forest.
func (s *shop) null(f form) bool {
	one, two := s.items[f.subs[0]].null, s.items[f.subs[1]].null
	switch f.op {
	case api.REps, api.RStar:
		return true
	case api.RSeq, api.RAnd, api.RMix:
		return one && two
	case api.RAlt:
		return one || two
	case api.RNot:
		return !one
	case api.RRef:
		return s.items[s.bodies[f.what]].null
	}
	return false
}

// within returns the atoms of the expressions of an expression, and of what these name.
func (s *shop) within(f form) letter {
	l := s.items[f.subs[0]].atoms.or(s.items[f.subs[1]].atoms)
	switch f.op {
	case api.RTree:
		l.add(f.what)
	case api.RRef:
		l = s.items[s.bodies[f.what]].atoms
	}
	return l
}

// form returns the form of an expression whose Subs are stored by `store`.
func (s *shop) form(r api.Re, store func(r api.Re) node) form {
	f := form{op: r.Op, what: r.Def}
	if r.Op == api.RTree {
		f.what = s.indexOf(r)
	}
	for i, sub := range r.Subs {
		x := store(sub)
		f.subs[i] = x
	}
	return f
}

// stored returns the number of an expression as it is, in normal form or not.
func (s *shop) stored(r api.Re) node { return s.store(s.form(r, s.stored)) }

// expression returns the expression that has a number. It shares no memory with anything.
func (s *shop) expression(x node) api.Re {
	f := s.items[x].form
	r := api.Re{Op: f.op, Def: f.what}
	if f.op == api.RTree {
		a := s.atoms[f.what]
		r.Guard, r.Def = share.CloneGuard(s.guards[a.guard]), a.def
	}
	for _, sub := range f.subs {
		if sub != nothing {
			part := s.expression(sub)
			r.Subs = append(r.Subs, part)
		}
	}
	return r
}

// compare compares expressions. What has another number is another one, so that only the first Subs that differ are looked at.
func (s *shop) compare(x, y node) int {
	if x == y {
		return 0
	}
	one, two := s.items[x].form, s.items[y].form
	if c := cmp.Or(cmp.Compare(one.op, two.op), cmp.Compare(one.what, two.what)); c != 0 {
		return c
	}
	return slices.CompareFunc(one.subs[:], two.subs[:], s.compare)
}

// settled gives up the expressions that were stored last, from a number on, but for those that x is made of: most of what is stored on the way to a derivative is not needed again. It returns the number that x has then, or nothing if x is too large.
func (s *shop) settled(x node, from int) node {
	isLarge := s.items[x].size > api.MaxDerived
	last := slices.Clone(s.items[from:])
	for _, dead := range last {
		delete(s.nodes, dead.form)
	}
	s.items = s.items[:from]
	if isLarge {
		return nothing
	}
	var again func(x node) node
	again = func(x node) node {
		if int(x) < from {
			return x
		}
		f := last[int(x)-from].form
		for i, sub := range f.subs {
			y := again(sub)
			f.subs[i] = y
		}
		return s.store(f)
	}
	return again(x)
}
