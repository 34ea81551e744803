package grammar

import (
	"iter"
	"slices"

	"withy/api"
	"withy/guard"
	"withy/share"
	"withy/tree"
)

// marks are the bytes that the texts of expressions have by their kinds. RTree and RRef have names.
var marks = [share.ReOps]mark{api.RNone: "~", api.REps: ".", api.RSeq: ",", api.RAlt: "|", api.RStar: "*", api.RAnd: "&", api.RNot: "!", api.RMix: "%"}

// checked is a grammar that has no error, and its guards.
type checked struct {
	api.Grammar
	guards []api.Guard
}

// check returns a grammar as one that has no error, or its error. The errors of the guards of its expressions are asked for in order.
func check(g api.Grammar, guardError func(g api.Guard) api.Errno) (checked, api.Errno) {
	if len(g.Defs) == 0 || len(g.Defs) > api.MaxDefs || !share.Fits(expressions(g), api.MaxRes) {
		return checked{}, api.ErrMany
	}
	for def := range g.Defs {
		if e := checkDef(g, def, guardError); e != api.OK {
			return checked{}, e
		}
	}
	c := checked{Grammar: g, guards: guardsOf(g)}
	if e := guard.CheckList(c.guards); e != api.OK {
		return checked{}, e
	}
	return c, api.OK
}

// checkAt is check, and whether the grammar has definitions with these indexes.
func checkAt(g api.Grammar, defs ...int) (checked, api.Errno) {
	c, e := check(g, guard.Check)
	if e != api.OK {
		return checked{}, e
	}
	if !share.AreIndexes(len(c.Defs), defs...) {
		return checked{}, api.ErrAbsent
	}
	return c, api.OK
}

// expressions yields the expressions of a grammar, in order.
func expressions(g api.Grammar) iter.Seq[api.Re] {
	return func(yield func(api.Re) bool) {
	bodies:
		for _, d := range g.Defs {
			for r := range share.Expressions(d.Body) {
				if !yield(r) {
					break bodies
				}
			}
		}
	}
}

func checkDef(g api.Grammar, def int, guardError func(g api.Guard) api.Errno) api.Errno {
	name := g.Defs[def].Name
	if e := checkName(name); e != api.OK {
		return e
	}
	if slices.ContainsFunc(g.Defs[:def], func(d api.Def) bool { return d.Name == name }) {
		return api.ErrTwice
	}
	for r := range share.Expressions(g.Defs[def].Body) {
		if e := checkAlone(r, def, len(g.Defs)); e != api.OK {
			return e
		}
		if r.Op == api.RTree {
			if e := guardError(r.Guard); e != api.OK {
				return e
			}
		}
	}
	return api.OK
}

// checkAlone returns the error of an expression of one of so many definitions, but for that of its guard, and those of its Subs.
func checkAlone(r api.Re, def, defs int) api.Errno {
	e := share.CheckRe(r, defs)
	if e == api.OK && r.Op == api.RRef && r.Def >= def {
		return api.ErrOrder
	}
	return e
}

// checkName returns the error of a string that is to be a name: the one it has as a label.
func checkName(name string) api.Errno { return tree.CheckHead(api.Head{Label: name}) }

// guardsOf returns the guards of a grammar whose expressions have no errors.
func guardsOf(g api.Grammar) []api.Guard {
	l := []api.Guard{{Op: api.GElem}}
	for r := range expressions(g) {
		if r.Op == api.RTree {
			l = share.Added(l, r.Guard, share.SameGuard)
		}
	}
	return l
}
