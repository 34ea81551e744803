package grammar

import (
	"slices"

	"withy/api"
	"withy/guard"
	"withy/share"
)

// Open returns the opened Body of a definition.
func Open(g api.Grammar, def int) (api.Re, api.Errno) {
	c, e := checkAt(g, def)
	if e != api.OK {
		return api.Re{}, e
	}
	sizes := c.measured(func(op api.ReOp, subs []int) int {
		count := 1
		for _, n := range subs {
			count += n
		}
		return count
	})
	if sizes[def] > api.MaxRes {
		return api.Re{}, api.ErrLimit
	}
	return c.opened(c.Defs[def].Body), api.OK
}

// Trim returns the grammar of the definitions that some of these reach, and which index each definition has now.
func Trim(g api.Grammar, defs []int) (t api.Grammar, now []int, e api.Errno) {
	c, e := check(g, guard.Check)
	switch {
	case e != api.OK:
		return api.Grammar{}, nil, e
	case len(defs) == 0:
		return api.Grammar{}, nil, api.ErrMany
	case !share.AreIndexes(len(c.Defs), defs...):
		return api.Grammar{}, nil, api.ErrAbsent
	}
	kept := c.reach(defs...)
	for def := range c.Defs {
		now = append(now, slices.Index(kept, def))
	}
	all := c.remade(func(r api.Re) api.Re { return renumbered(r, func(def int) int { return now[def] }) })
	for _, def := range kept {
		t.Defs = append(t.Defs, all.Defs[def])
	}
	return t, now, api.OK
}

// Join returns the grammar of the definitions of a, and then of those of b.
func Join(a, b api.Grammar) (api.Grammar, api.Errno) {
	front, e := check(a, guard.Check)
	if e != api.OK {
		return api.Grammar{}, e
	}
	behind, e := check(b, guard.Check)
	if e != api.OK {
		return api.Grammar{}, e
	}
	first := len(front.Defs)
	moved := behind.remade(func(r api.Re) api.Re { return renumbered(r, func(def int) int { return first + def }) })
	return made(append(front.Defs[:first:first], moved.Defs...))
}

// Put returns the grammar in which r is the Body of a definition.
func Put(g api.Grammar, def int, r api.Re) (api.Grammar, api.Errno) {
	return changed(g, def, func(d *api.Def) { d.Body = r })
}

// Rename returns the grammar in which name is the Name of a definition.
func Rename(g api.Grammar, def int, name string) (api.Grammar, api.Errno) {
	return changed(g, def, func(d *api.Def) { d.Name = name })
}

// Simple returns the grammar with its Bodies made simple.
func Simple(g api.Grammar) (api.Grammar, api.Errno) {
	c, e := check(g, guard.Check)
	if e != api.OK {
		return api.Grammar{}, e
	}
	return c.remade(simplified), api.OK
}

// Turn returns the grammar in which each sequence has its Subs in the other order.
func Turn(g api.Grammar) (api.Grammar, api.Errno) {
	c, e := check(g, guard.Check)
	if e != api.OK {
		return api.Grammar{}, e
	}
	return c.remade(turned), api.OK
}

// made returns the grammar of these definitions, which shares no memory with them, or its error.
func made(defs []api.Def) (api.Grammar, api.Errno) {
	c, e := check(api.Grammar{Defs: defs}, guard.Check)
	if e != api.OK {
		return api.Grammar{}, e
	}
	return c.remade(unchanged), api.OK
}

// changed returns the grammar in which one definition is changed, or the error of that.
func changed(g api.Grammar, def int, change func(d *api.Def)) (api.Grammar, api.Errno) {
	c, e := checkAt(g, def)
	if e != api.OK {
		return api.Grammar{}, e
	}
	defs := make([]api.Def, len(c.Defs))
	copy(defs, c.Defs)
	change(&defs[def])
	return made(defs)
}

// remade returns the grammar whose Bodies are remade.
func (c checked) remade(change func(r api.Re) api.Re) api.Grammar {
	return api.Grammar{Defs: share.Mapped(c.Defs, func(d api.Def) api.Def {
		return api.Def{Name: d.Name, Body: remade(d.Body, change)}
	})}
}

// remade returns an expression that is made from the inside: each one is what change makes of it, when its Subs are made. It shares no memory with r, so that change can change its Subs.
func remade(r api.Re, change func(r api.Re) api.Re) api.Re {
	r.Guard = share.CloneGuard(r.Guard)
	r.Subs = share.Mapped(r.Subs, func(sub api.Re) api.Re { return remade(sub, change) })
	return change(r)
}

func unchanged(r api.Re) api.Re { return r }

// opened returns an expression with the opened Bodies in the place of what names them.
func (c checked) opened(r api.Re) api.Re {
	return remade(r, func(r api.Re) api.Re {
		if r.Op == api.RRef {
			return c.opened(c.Defs[r.Def].Body)
		}
		return r
	})
}

// renumbered returns an expression that names a definition by the index that it has now.
func renumbered(r api.Re, now func(def int) int) api.Re {
	if share.UseOf(r.Op).Def {
		r.Def = now(r.Def)
	}
	return r
}

func turned(r api.Re) api.Re {
	if r.Op == api.RSeq {
		slices.Reverse(r.Subs)
	}
	return r
}

// simplified returns an expression made simple whose Subs are simple.
func simplified(r api.Re) api.Re {
	switch r.Op {
	case api.RSeq, api.RMix:
		if _, is := beside(r, api.RNone); is {
			return api.Re{Op: api.RNone}
		}
		if other, is := beside(r, api.REps); is {
			return other
		}
	case api.RAlt:
		if other, is := beside(r, api.RNone); is {
			return other
		}
		return single(r)
	case api.RAnd:
		if _, is := beside(r, api.RNone); is {
			return api.Re{Op: api.RNone}
		}
		return single(r)
	case api.RStar:
		switch r.Subs[0].Op {
		case api.RNone, api.REps:
			return api.Re{Op: api.REps}
		case api.RStar:
			return r.Subs[0]
		}
	case api.RNot:
		if r.Subs[0].Op == api.RNot {
			return r.Subs[0].Subs[0]
		}
	}
	return r
}

// beside returns whether one of two Subs is of a kind, and the other one: the second one if both are.
func beside(r api.Re, op api.ReOp) (other api.Re, is bool) {
	switch op {
	case r.Subs[0].Op:
		return r.Subs[1], true
	case r.Subs[1].Op:
		return r.Subs[0], true
	}
	return api.Re{}, false
}

// single returns the first one of two Subs that are the same, otherwise the expression.
func single(r api.Re) api.Re {
	if sameRe(r.Subs[0], r.Subs[1]) {
		return r.Subs[0]
	}
	return r
}

// sameRe is whether expressions are the same in each field.
func sameRe(a, b api.Re) bool {
	return a.Op == b.Op && share.SameGuard(a.Guard, b.Guard) && a.Def == b.Def && slices.EqualFunc(a.Subs, b.Subs, sameRe)
}
