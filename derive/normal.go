package derive

import (
	"iter"
	"slices"

	"withy/api"
)

// normal returns the normal form of an expression.
func (s *shop) normal(r api.Re) node { return s.made(s.form(r, s.normal)) }

// made returns the normal form of an expression whose Subs have theirs.
func (s *shop) made(f form) node { return s.rules[f.op].normal(s, f) }

// law is how expressions of a kind are made of their parts: a part `only` is all that is left, a part `no` is left out, and the others are arranged.
type law struct {
	only, no node
	arrange  func(l []node, compare func(x, y node) int) []node
}

func (s *shop) sequence(f form) node { return s.joined(f, law{none, empty, asTheyAre[node]}) }
func (s *shop) choice(f form) node   { return s.joined(f, law{all, none, single[node]}) }
func (s *shop) both(f form) node     { return s.joined(f, law{none, all, single[node]}) }
func (s *shop) mix(f form) node      { return s.joined(f, law{none, empty, ascending[node]}) }

// joined returns the expression of the parts of an expression, as a law says.
func (s *shop) joined(f form, l law) node {
	var parts []node
	for part := range s.parts(f) {
		switch part {
		case l.only:
			return l.only
		case l.no:
		default:
			parts = append(parts, part)
		}
	}
	parts = l.arrange(parts, s.compare)
	joined := l.no
	for i, part := range slices.Backward(parts) {
		if i == len(parts)-1 {
			joined = part
		} else {
			joined = s.store(form{op: f.op, subs: [2]node{part, joined}})
		}
	}
	return joined
}

// parts yields the parts of an expression that has two Subs.
func (s *shop) parts(f form) iter.Seq[node] {
	return func(yield func(node) bool) {
		var visit func(of form) bool
		visit = func(of form) bool {
			for _, sub := range of.subs {
				in := s.items[sub].form
				if in.op == f.op && !visit(in) || in.op != f.op && !yield(sub) {
					return false
				}
			}
			return true
		}
		visit(f)
	}
}

func (s *shop) star(f form) node {
	sub := f.subs[0]
	switch {
	case sub == none || sub == empty:
		return empty
	case sub == all || s.items[sub].op == api.RStar:
		return sub
	}
	return s.store(f)
}

func (s *shop) not(f form) node {
	if sub := s.items[f.subs[0]]; sub.op == api.RNot {
		return sub.subs[0]
	}
	return s.store(f)
}
