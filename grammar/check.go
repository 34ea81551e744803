package grammar

import (
	"slices"

	"withy/api"
	"withy/guard"
	"withy/share"
	"withy/tree"
)

// kinds is how many kinds of expressions there are.
const kinds = int(api.RRef) + 1

// shape is what the expressions of a kind use, and the byte that their text has.
type shape struct {
	subs       int
	guard, def bool
	mark       mark
}

var shapes = [kinds]shape{
	api.RNone: {mark: "~"},
	api.REps:  {mark: "."},
	api.RTree: {guard: true, def: true},
	api.RSeq:  {subs: 2, mark: ","},
	api.RAlt:  {subs: 2, mark: "|"},
	api.RStar: {subs: 1, mark: "*"},
	api.RAnd:  {subs: 2, mark: "&"},
	api.RNot:  {subs: 1, mark: "!"},
	api.RMix:  {subs: 2, mark: "%"},
	api.RRef:  {def: true},
}

// checked is a grammar that has no error, and its guards.
type checked struct {
	api.Grammar
	guards []api.Guard
}

// check returns a grammar as one that has no error, or its error. The errors of the guards of its expressions are asked for in order.
func check(g api.Grammar, guardError func(g api.Guard) api.Errno) (checked, api.Errno) {
	if len(g.Defs) == 0 || len(g.Defs) > api.MaxDefs || size(g) > api.MaxRes {
		return checked{}, api.ErrMany
	}
	for def := range g.Defs {
		if e := checkDef(g, def, guardError); e != api.OK {
			return checked{}, e
		}
	}
	c := checked{Grammar: g, guards: guardsOf(g)}
	if e := guard.CheckList(c.guards); e != api.OK {
		return checked{}, e
	}
	return c, api.OK
}

// checkAt is check, and whether the grammar has definitions with these indexes.
func checkAt(g api.Grammar, defs ...int) (checked, api.Errno) {
	c, e := check(g, guard.Check)
	if e != api.OK {
		return checked{}, e
	}
	if !share.AreIndexes(len(c.Defs), defs...) {
		return checked{}, api.ErrAbsent
	}
	return c, api.OK
}

// size returns how many expressions a grammar has. It goes no further than the first one that is too many, because a slice can hold itself as Subs.
func size(g api.Grammar) int {
	count := 0
counting:
	for _, d := range g.Defs {
		for range expressions(d.Body) {
			count++
			if count > api.MaxRes {
				break counting
			}
		}
	}
	return count
}

func checkDef(g api.Grammar, def int, guardError func(g api.Guard) api.Errno) api.Errno {
	name := g.Defs[def].Name
	if e := checkName(name); e != api.OK {
		return e
	}
	if slices.ContainsFunc(g.Defs[:def], func(d api.Def) bool { return d.Name == name }) {
		return api.ErrTwice
	}
	for r := range expressions(g.Defs[def].Body) {
		if e := checkAlone(r, def, len(g.Defs)); e != api.OK {
			return e
		}
		if shapes[r.Op].guard {
			if e := guardError(r.Guard); e != api.OK {
				return e
			}
		}
	}
	return api.OK
}

// checkAlone returns the error of an expression of one of so many definitions, but for that of its guard, and those of its Subs.
func checkAlone(r api.Re, def, defs int) api.Errno {
	switch {
	case stray(r):
		return api.ErrForm
	case shapes[r.Op].def && !share.AreIndexes(defs, r.Def):
		return api.ErrAbsent
	case r.Op == api.RRef && r.Def >= def:
		return api.ErrOrder
	}
	return api.OK
}

// checkName returns the error of a string that is to be a name: the one it has as a label.
func checkName(name string) api.Errno { return tree.CheckHead(api.Head{Label: name}) }

// stray is whether an expression is of no kind, or has not just what its kind uses.
func stray(r api.Re) bool {
	if r.Op < 0 || int(r.Op) >= kinds {
		return true
	}
	s := shapes[r.Op]
	return len(r.Subs) != s.subs || !s.guard && !share.SameGuard(r.Guard, api.Guard{}) || !s.def && r.Def != 0
}

// guardsOf returns the guards of a grammar whose expressions have no errors.
func guardsOf(g api.Grammar) []api.Guard {
	l := []api.Guard{{Op: api.GElem}}
	for _, d := range g.Defs {
		for r := range expressions(d.Body) {
			if shapes[r.Op].guard {
				l = share.Added(l, r.Guard, share.SameGuard)
			}
		}
	}
	return l
}
