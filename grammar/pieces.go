package grammar

import "iter"

// pieces are parts of a list of trees, each with a number. Sets of them are what expressions have.
type pieces interface {
	// bound is above all numbers of pieces.
	bound() int
	// every returns the set of all pieces.
	every() set
	// empty returns the set of those that have no trees.
	empty() set
	// single returns the piece that is one tree of the list, whole the one that is the list.
	single(at int) int
	whole() int
	// join adds to a set the pieces that are one of front, and one of behind behind it. When it comes to a piece it is done with all that this one can end with, so that behind can be the set itself.
	join(s, front, behind set)
	// mix adds to a set the pieces that can be parted into one of a and one of b.
	mix(s, a, b set)
}

// spans are the pieces of trees that stand beside each other in a list of so many. The number of one is that of the place where it begins, times the width, and that of the place where it ends: so a row of words tells where pieces end that begin at the same place.
type spans struct{ trees int }

func (p spans) words() int { return p.trees/wordBits + 1 }

func (p spans) row(s set, from int) set { return s[from*p.words() : (from+1)*p.words()] }

func (p spans) number(from, to int) int { return from*p.words()*wordBits + to }

func (p spans) bound() int { return (p.trees + 1) * p.words() * wordBits }

func (p spans) every() set {
	s := newSet(p.bound())
	for to := range p.trees + 1 {
		for from := range to + 1 {
			s.add(p.number(from, to))
		}
	}
	return s
}

func (p spans) empty() set {
	s := newSet(p.bound())
	for place := range p.trees + 1 {
		s.add(p.number(place, place))
	}
	return s
}

func (p spans) single(at int) int { return p.number(at, at+1) }

func (p spans) whole() int { return p.number(0, p.trees) }

func (p spans) join(s, front, behind set) {
	for from := p.trees; from >= 0; from-- {
		for place := range p.row(front, from).all() {
			p.row(s, from).addAll(p.row(behind, place))
		}
	}
}

// mix is not called: lists that are mixed are not looked at by spans.
func (p spans) mix(s, a, b set) {}

// choices are the pieces of any trees of a list of a few, in their order. The number of one has a bit for each tree of it.
type choices struct{ trees int }

func (p choices) bound() int { return 1 << p.trees }

func (p choices) every() set {
	s := newSet(p.bound())
	for piece := range p.bound() {
		s.add(piece)
	}
	return s
}

func (p choices) empty() set {
	s := newSet(p.bound())
	s.add(0)
	return s
}

func (p choices) single(at int) int { return 1 << at }

func (p choices) whole() int { return p.bound() - 1 }

func (p choices) join(s, front, behind set) {
	for piece := range p.bound() {
		for place := range p.trees + 1 {
			first := piece & (1<<place - 1)
			if front.has(first) && behind.has(piece-first) {
				s.add(piece)
				break
			}
		}
	}
}

func (p choices) mix(s, a, b set) {
	for piece := range p.bound() {
		for part := range partsOf(piece) {
			if a.has(part) && b.has(piece-part) {
				s.add(piece)
				break
			}
		}
	}
}

// partsOf yields the numbers of the pieces that have some of the trees of a piece, or all of them, or none.
func partsOf(piece int) iter.Seq[int] {
	return func(yield func(int) bool) {
		for part := piece; yield(part) && part > 0; {
			part = (part - 1) & piece
		}
	}
}
