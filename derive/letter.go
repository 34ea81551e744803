package derive

import "withy/api"

// wordBits is how many atoms a word tells of.
const wordBits = 64

// letter is a set of atoms, with a bit for each: those that have a tree. So it is all that expressions tell of the tree. There is room for the atoms of a grammar, and of two expressions.
type letter [3*api.MaxRes/wordBits + 1]uint64

func (l letter) has(i int) bool { return l[i/wordBits]>>(i%wordBits)&1 == 1 }

func (l *letter) add(i int) { l[i/wordBits] |= 1 << (i % wordBits) }

// or returns the atoms of one of two letters.
func (l letter) or(m letter) letter {
	for i := range l {
		l[i] |= m[i]
	}
	return l
}

// and returns the atoms of both of two letters.
func (l letter) and(m letter) letter {
	for i := range l {
		l[i] &= m[i]
	}
	return l
}

// letter returns the atoms that have a tree, of which it is told which guards accept its head, and of which definitions its kids are.
func (c checked) letter(accepted, kids []bool) letter {
	var l letter
	for i, a := range c.atoms {
		if accepted[a.guard] && kids[a.def] {
			l.add(i)
		}
	}
	return l
}
