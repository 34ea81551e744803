package grammar

import (
	"slices"

	"withy/api"
	"withy/share"
)

// Uses returns which definitions a definition uses.
func Uses(g api.Grammar, def int) ([]int, api.Errno) {
	c, e := checkAt(g, def)
	if e != api.OK {
		return nil, e
	}
	return c.uses(def), api.OK
}

// Reach returns which definitions a definition reaches.
func Reach(g api.Grammar, def int) ([]int, api.Errno) {
	c, e := checkAt(g, def)
	if e != api.OK {
		return nil, e
	}
	return c.reach(def), api.OK
}

// Loops returns whether a definition is recursive.
func Loops(g api.Grammar, def int) (bool, api.Errno) {
	c, e := checkAt(g, def)
	if e != api.OK {
		return false, e
	}
	return slices.Contains(c.reach(c.uses(def)...), def), api.OK
}

// Stars returns the stars of a definition.
func Stars(g api.Grammar, def int) (int, api.Errno) {
	c, e := checkAt(g, def)
	if e != api.OK {
		return 0, e
	}
	stars := c.measured(func(op api.ReOp, subs []int) int {
		most := 0
		for _, n := range subs {
			most = max(most, n)
		}
		if op == api.RStar {
			most++
		}
		return most
	})
	return stars[def], api.OK
}

// Labels returns the labels that guards name in the definitions that a definition reaches.
func Labels(g api.Grammar, def int) ([]string, api.Errno) {
	c, e := checkAt(g, def)
	if e != api.OK {
		return nil, e
	}
	var l []string
	for _, reached := range c.reach(def) {
		for r := range share.Expressions(c.Defs[reached].Body) {
			for part := range share.Parts(r.Guard) {
				if part.Op == api.GLabel {
					l = append(l, part.Name)
				}
			}
		}
	}
	slices.Sort(l)
	return slices.Compact(l), api.OK
}

// uses returns which definitions a definition uses, ascending.
func (c checked) uses(def int) []int {
	var l []int
	for r := range share.Expressions(c.Defs[def].Body) {
		if share.UseOf(r.Op).Def {
			l = append(l, r.Def)
		}
	}
	slices.Sort(l)
	return slices.Compact(l)
}

// reach returns which definitions are reached by some of these, ascending.
func (c checked) reach(defs ...int) []int {
	var l []int
	var visit func(defs []int)
	visit = func(defs []int) {
		for _, def := range defs {
			if !slices.Contains(l, def) {
				l = append(l, def)
				visit(c.uses(def))
			}
		}
	}
	visit(defs)
	slices.Sort(l)
	return l
}

// measured returns a number for each opened Body, which is made from the inside: of an expression by its Op, and the numbers of its Subs.
func (c checked) measured(measure func(op api.ReOp, subs []int) int) []int {
	var l []int
	var of func(r api.Re) int
	of = func(r api.Re) int {
		if r.Op == api.RRef {
			return l[r.Def] // of an earlier definition
		}
		return measure(r.Op, share.Mapped(r.Subs, of))
	}
	for _, d := range c.Defs {
		n := of(d.Body)
		l = append(l, n)
	}
	return l
}
