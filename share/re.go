package share

import (
	"iter"

	"withy/api"
)

// Use is what the expressions of a kind use.
type Use struct {
	Subs       int
	Guard, Def bool
}

var uses = [...]Use{
	api.RNone: {},
	api.REps:  {},
	api.RTree: {Guard: true, Def: true},
	api.RSeq:  {Subs: 2},
	api.RAlt:  {Subs: 2},
	api.RStar: {Subs: 1},
	api.RAnd:  {Subs: 2},
	api.RNot:  {Subs: 1},
	api.RMix:  {Subs: 2},
	api.RRef:  {Def: true},
}

// ReOps is how many kinds of expressions there are.
const ReOps = len(uses)

// UseOf returns what the expressions of a kind use, which has to be one.
func UseOf(op api.ReOp) Use { return uses[op] }

// Expressions yields the expressions of an expression, in order.
func Expressions(r api.Re) iter.Seq[api.Re] {
	return Nested(r, func(r api.Re) []api.Re { return r.Subs })
}

// CheckRe returns the error of an expression in a grammar with so many definitions, but for that of its guard, and those of its Subs; or OK.
func CheckRe(r api.Re, defs int) api.Errno {
	switch {
	case stray(r):
		return api.ErrForm
	case uses[r.Op].Def && !AreIndexes(defs, r.Def):
		return api.ErrAbsent
	}
	return api.OK
}

// stray is whether an expression is of no kind, or has not just what its kind uses.
func stray(r api.Re) bool {
	if !AreIndexes(ReOps, int(r.Op)) {
		return true
	}
	u := uses[r.Op]
	return len(r.Subs) != u.Subs || !u.Guard && !SameGuard(r.Guard, api.Guard{}) || !u.Def && r.Def != 0
}
