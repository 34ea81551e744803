package derive

import (
	"cmp"
	"slices"

	"withy/api"
	"withy/grammar"
	"withy/guard"
	"withy/share"
)

// checked is a grammar that has no error, and what its expressions, and some others in it, have by RTree: the guards, and the atoms, ascending, each once.
type checked struct {
	api.Grammar
	guards []api.Guard
	atoms  []atom
}

// atom is what an expression RTree has: a guard, by its index, and a definition. So what is compared by guards is compared by numbers.
type atom struct{ guard, def int }

// check returns a grammar, and expressions in it, as ones that have no error, or the first error.
func check(g api.Grammar, l ...api.Re) (checked, api.Errno) {
	if e := grammar.Check(g); e != api.OK {
		return checked{}, e
	}
	for _, r := range l {
		if e := checkRe(r, len(g.Defs)); e != api.OK {
			return checked{}, e
		}
	}
	return newChecked(g, l), api.OK
}

// checkRe returns the error of an expression in a grammar with so many definitions, or OK.
func checkRe(r api.Re, defs int) api.Errno {
	all := share.Expressions(r)
	if !share.Fits(all, api.MaxRes) {
		return api.ErrMany
	}
	for part := range all {
		if e := share.CheckRe(part, defs); e != api.OK {
			return e
		}
		if part.Op == api.RTree {
			if e := guard.Check(part.Guard); e != api.OK {
				return e
			}
		}
	}
	return api.OK
}

func newChecked(g api.Grammar, l []api.Re) checked {
	var trees []api.Re
	add := func(r api.Re) {
		for part := range share.Expressions(r) {
			if part.Op == api.RTree {
				trees = append(trees, part)
			}
		}
	}
	for _, d := range g.Defs {
		add(d.Body)
	}
	for _, r := range l {
		add(r)
	}
	c := checked{Grammar: g}
	c.guards = single(share.Mapped(trees, func(r api.Re) api.Guard { return r.Guard }), compareGuards)
	c.atoms = single(share.Mapped(trees, c.atomOf), compareAtoms)
	return c
}

// atomOf returns the atom of an expression RTree.
func (c checked) atomOf(r api.Re) atom {
	at, _ := slices.BinarySearchFunc(c.guards, r.Guard, compareGuards)
	return atom{at, r.Def}
}

// indexOf returns the index of the atom of an expression RTree.
func (c checked) indexOf(r api.Re) int {
	at, _ := slices.BinarySearchFunc(c.atoms, c.atomOf(r), compareAtoms)
	return at
}

func compareAtoms(x, y atom) int {
	return cmp.Or(cmp.Compare(x.guard, y.guard), cmp.Compare(x.def, y.def))
}

func compareGuards(a, b api.Guard) int {
	return cmp.Or(
		cmp.Compare(a.Op, b.Op),
		cmp.Compare(a.Name, b.Name),
		cmp.Compare(a.Value, b.Value),
		cmp.Compare(a.At.N, b.At.N),
		cmp.Compare(a.At.D, b.At.D),
		slices.CompareFunc(a.Subs, b.Subs, compareGuards),
	)
}

// asTheyAre returns a list as it is.
func asTheyAre[T any](l []T, _ func(x, y T) int) []T { return l }

// ascending returns a list in order, in the same memory.
func ascending[T any](l []T, compare func(x, y T) int) []T {
	slices.SortFunc(l, compare)
	return l
}

// single returns the elements of a list in order, each once, in the same memory.
func single[T any](l []T, compare func(x, y T) int) []T {
	return slices.CompactFunc(ascending(l, compare), func(x, y T) bool { return compare(x, y) == 0 })
}
