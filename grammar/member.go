package grammar

import (
	"withy/api"
	"withy/guard"
	"withy/share"
	"withy/tree"
)

// In returns whether a forest is of a definition.
func In(g api.Grammar, def int, f []api.Tree) (bool, api.Errno) {
	c, e := checkAt(g, def)
	if e != api.OK {
		return false, e
	}
	is, e := c.members(f)
	if e != api.OK {
		return false, e
	}
	return is[def], api.OK
}

// All returns, for each definition, whether a forest is of it.
func All(g api.Grammar, f []api.Tree) ([]bool, api.Errno) {
	c, e := check(g, guard.Check)
	if e != api.OK {
		return nil, e
	}
	return c.members(f)
}

// Null returns, for each definition, whether the empty forest is of it.
func Null(g api.Grammar) ([]bool, api.Errno) { return All(g, nil) }

// members returns, for each definition, whether a forest is of it, or the error of the forest.
func (c checked) members(f []api.Tree) ([]bool, api.Errno) {
	if e := tree.Check(f); e != api.OK {
		return nil, e
	}
	mixes := c.mixes()
	if mixes && widest(f) > api.MaxSide {
		return nil, api.ErrLimit
	}
	j := judge{checked: c, mixes: mixes, kids: map[kid]bool{}}
	return j.list(f, 0), api.OK
}

// mixes is whether a grammar has mixes.
func (c checked) mixes() bool {
	for r := range expressions(c.Grammar) {
		if r.Op == api.RMix {
			return true
		}
	}
	return false
}

// widest returns how many trees stand beside each other in a forest at most.
func widest(f []api.Tree) int {
	most := len(f)
	for _, t := range f {
		most = max(most, widest(t.Kids))
	}
	return most
}

// judge tells of which definitions lists of trees are.
type judge struct {
	checked
	mixes bool
	kids  map[kid]bool
}

// kid is that the kids of a tree of a list are of a definition. By how deep they are lists are told from those around them, which are judged at the same time.
type kid struct{ deep, at, def int }

// list returns, for each definition, whether a list of trees is of it.
func (j judge) list(f []api.Tree, deep int) []bool {
	for at, t := range f {
		for def, is := range j.list(t.Kids, deep+1) {
			j.kids[kid{deep, at, def}] = is
		}
	}
	l := j.line(f, deep)
	var is []bool
	for _, d := range j.Defs {
		s := l.of(d.Body)
		l.bodies = append(l.bodies, s)
		is = append(is, s.has(l.whole()))
	}
	for at := range f {
		for def := range j.Defs {
			delete(j.kids, kid{deep, at, def})
		}
	}
	return is
}

// line is a list of trees, the kids of which are judged, and the pieces that the definitions have, from the first one on.
type line struct {
	judge
	pieces
	trees  []api.Tree
	deep   int
	bodies []set
	acts   [share.ReOps]act
}

// act is what the expressions of a kind do: they have pieces by those that their Subs have.
type act struct {
	has func(r api.Re, subs []set) set
}

func (j judge) line(f []api.Tree, deep int) *line {
	l := &line{judge: j, trees: f, deep: deep, pieces: spans{len(f)}}
	if j.mixes {
		l.pieces = choices{len(f)}
	}
	l.acts = [share.ReOps]act{
		api.RNone: {func(api.Re, []set) set { return newSet(l.bound()) }},
		api.REps:  {func(api.Re, []set) set { return l.empty() }},
		api.RTree: {l.tree},
		api.RSeq:  {l.sequence},
		api.RAlt:  {l.either},
		api.RStar: {l.star},
		api.RAnd:  {l.both},
		api.RNot:  {l.others},
		api.RMix:  {l.mixed},
		api.RRef:  {l.body},
	}
	return l
}

// of returns the pieces that an expression has.
func (l *line) of(r api.Re) set { return l.acts[r.Op].has(r, share.Mapped(r.Subs, l.of)) }

// tree has the pieces that are one tree, whose head the guard accepts, and whose kids are of the definition.
func (l *line) tree(r api.Re, _ []set) set {
	s := newSet(l.bound())
	for at, t := range l.trees {
		if l.kids[kid{l.deep, at, r.Def}] && accepts(r.Guard, t.Head) {
			s.add(l.single(at))
		}
	}
	return s
}

// accepts is whether a guard accepts a head, both without errors.
func accepts(g api.Guard, h api.Head) bool {
	is, _ := guard.Holds(g, h)
	return is
}

func (l *line) sequence(_ api.Re, subs []set) set {
	s := newSet(l.bound())
	l.join(s, subs[0], subs[1])
	return s
}

// star has what is empty, and what is one of Subs[0] and a star behind it.
func (l *line) star(_ api.Re, subs []set) set {
	s := l.empty()
	l.join(s, subs[0], s)
	return s
}

func (l *line) mixed(_ api.Re, subs []set) set {
	s := newSet(l.bound())
	l.mix(s, subs[0], subs[1])
	return s
}

func (l *line) either(_ api.Re, subs []set) set {
	return combined(subs[0], subs[1], func(v, w uint64) uint64 { return v | w })
}

func (l *line) both(_ api.Re, subs []set) set {
	return combined(subs[0], subs[1], func(v, w uint64) uint64 { return v & w })
}

func (l *line) others(_ api.Re, subs []set) set {
	return combined(l.every(), subs[0], func(v, w uint64) uint64 { return v &^ w })
}

// body has what an earlier definition has.
func (l *line) body(r api.Re, _ []set) set { return l.bodies[r.Def] }
