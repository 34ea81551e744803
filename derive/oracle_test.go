package derive_test

import (
	"cmp"
	"iter"
	"slices"

	"withy/api"
	"withy/grammar"
	"withy/guard"
)

// The tests hold what the functions return against another reading of the chapter, which shares no code with the package: expressions are rewritten by single laws until no law fits, compared as they are written from left to right, and what kids are of is asked of grammar.All.

// mark is a piece of what is written of an expression.
type mark struct {
	number int
	name   string
}

func compareMarks(x, y mark) int {
	return cmp.Or(cmp.Compare(x.number, y.number), cmp.Compare(x.name, y.name))
}

// guardMarks are what is written of a guard: as its Op tells how many Subs it has, what is written of these can follow without brackets.
func guardMarks(g api.Guard) []mark {
	l := []mark{{number: int(g.Op)}, {name: g.Name}, {name: g.Value}, {number: g.At.N}, {number: g.At.D}}
	for _, sub := range g.Subs {
		l = append(l, guardMarks(sub)...)
	}
	return l
}

func marksOf(r api.Re) []mark {
	l := append([]mark{{number: int(r.Op)}}, guardMarks(r.Guard)...)
	l = append(l, mark{number: r.Def})
	for _, sub := range r.Subs {
		l = append(l, marksOf(sub)...)
	}
	return l
}

func compareRes(r, q api.Re) int { return slices.CompareFunc(marksOf(r), marksOf(q), compareMarks) }

func isNone(r api.Re) bool { return r.Op == api.RNone }

func isEmpty(r api.Re) bool { return r.Op == api.REps }

func isAll(r api.Re) bool { return r.Op == api.RNot && isNone(r.Subs[0]) }

// pairLaw is how two Subs of an Op are rewritten.
type pairLaw struct {
	only, no     func(r api.Re) bool
	swaps, drops bool
}

var pairLaws = map[api.ReOp]pairLaw{
	api.RSeq: {isNone, isEmpty, false, false},
	api.RAlt: {isAll, isNone, true, true},
	api.RAnd: {isNone, isAll, true, true},
	api.RMix: {isNone, isEmpty, true, false},
}

// rewritten returns an expression to which no law can be applied.
func rewritten(r api.Re) api.Re {
	q := api.Re{Op: r.Op, Guard: r.Guard, Def: r.Def}
	for _, sub := range r.Subs {
		q.Subs = append(q.Subs, rewritten(sub))
	}
	if next, is := applied(q); is {
		return rewritten(next)
	}
	return q
}

// applied applies a law to an expression, if one fits.
func applied(r api.Re) (api.Re, bool) {
	switch r.Op {
	case api.RSeq, api.RAlt, api.RAnd, api.RMix:
		return appliedPair(pairLaws[r.Op], r.Op, r.Subs[0], r.Subs[1])
	case api.RStar:
		switch x := r.Subs[0]; {
		case isNone(x) || isEmpty(x):
			return re(api.REps), true
		case isAll(x) || x.Op == api.RStar:
			return x, true
		}
	case api.RNot:
		if x := r.Subs[0]; x.Op == api.RNot {
			return x.Subs[0], true
		}
	}
	return api.Re{}, false
}

func appliedPair(l pairLaw, op api.ReOp, x, y api.Re) (api.Re, bool) {
	switch {
	case l.only(x):
		return x, true
	case l.only(y):
		return y, true
	case l.no(x):
		return y, true
	case l.no(y):
		return x, true
	case x.Op == op:
		return re(op, x.Subs[0], re(op, x.Subs[1], y)), true
	}
	next, rest := y, []api.Re{}
	if y.Op == op {
		next, rest = y.Subs[0], y.Subs[1:]
	}
	c := compareRes(x, next)
	switch {
	case l.drops && c == 0:
		return y, true
	case l.swaps && c > 0 && len(rest) > 0:
		return re(op, next, re(op, x, rest[0])), true
	case l.swaps && c > 0:
		return re(op, next, x), true
	}
	return api.Re{}, false
}

// isNull is whether an expression has the empty forest.
func isNull(g api.Grammar, r api.Re) bool {
	switch r.Op {
	case api.REps, api.RStar:
		return true
	case api.RSeq, api.RAnd, api.RMix:
		return isNull(g, r.Subs[0]) && isNull(g, r.Subs[1])
	case api.RAlt:
		return isNull(g, r.Subs[0]) || isNull(g, r.Subs[1])
	case api.RNot:
		return !isNull(g, r.Subs[0])
	case api.RRef:
		return isNull(g, g.Defs[r.Def].Body)
	}
	return false
}

// derivative is what is left of an expression behind a tree whose kids are of these definitions, not in normal form.
func derivative(g api.Grammar, r api.Re, t api.Tree, kids []bool) api.Re {
	var subs []api.Re
	for _, sub := range r.Subs {
		subs = append(subs, derivative(g, sub, t, kids))
	}
	switch r.Op {
	case api.RTree:
		if is, _ := guard.Holds(r.Guard, t.Head); is && kids[r.Def] {
			return re(api.REps)
		}
	case api.RAlt, api.RAnd, api.RNot:
		return re(r.Op, subs...)
	case api.RSeq:
		first := re(api.RSeq, subs[0], r.Subs[1])
		if isNull(g, r.Subs[0]) {
			return re(api.RAlt, first, subs[1])
		}
		return first
	case api.RStar:
		return re(api.RSeq, subs[0], r)
	case api.RMix:
		return re(api.RAlt, re(api.RMix, subs[0], r.Subs[1]), re(api.RMix, r.Subs[0], subs[1]))
	case api.RRef:
		return derivative(g, rewritten(g.Defs[r.Def].Body), t, kids)
	}
	return re(api.RNone)
}

// leftOf is the derivative by a forest, in normal form, whether it is too large or not.
func leftOf(g api.Grammar, r api.Re, f []api.Tree) api.Re {
	for r = range prefixes(g, r, f) {
	}
	return r
}

// prefixes yields the derivatives by the forests with which a forest begins.
func prefixes(g api.Grammar, r api.Re, f []api.Tree) iter.Seq[api.Re] {
	return func(yield func(api.Re) bool) {
		r := rewritten(r)
		if !yield(r) {
			return
		}
		for _, t := range f {
			kids, e := grammar.All(g, t.Kids)
			if e != api.OK {
				panic(e)
			}
			r = rewritten(derivative(g, r, t, kids))
			if !yield(r) {
				return
			}
		}
	}
}

// listOf is the list of a forest.
func listOf(g api.Grammar, f []api.Tree) []api.Re {
	var l []api.Re
	for _, d := range g.Defs {
		l = append(l, leftOf(g, d.Body, f))
	}
	return l
}

// most is how many expressions the largest one has that comes on the way to the list of a forest, or, with an expression, on the way to that of its kids, and among the derivatives of the expression. It goes no further than the first one that is too large.
func most(g api.Grammar, f []api.Tree, l ...api.Re) int {
	if l == nil {
		for _, d := range g.Defs {
			l = append(l, d.Body)
		}
	}
	largest := 0
	for _, r := range l {
		for left := range prefixes(g, r, f) {
			if largest = max(largest, size(left)); largest > api.MaxDerived {
				return largest
			}
		}
	}
	for _, t := range f {
		largest = max(largest, most(g, t.Kids))
	}
	return largest
}
