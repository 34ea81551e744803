package derive_test

import (
	"slices"
	"strings"
	"testing"

	"withy/api"
	"withy/auto"
	"withy/derive"
	"withy/grammar"
	"withy/guard"
	"withy/tree"
)

// rows are the Yes of an automaton, as a text.
func rows(a api.Auto) string {
	var l []string
	for _, yes := range a.Yes {
		l = append(l, bits(yes))
	}
	return strings.Join(l, " ")
}

// leasts are the least forests of the states of an automaton.
func leasts(t *testing.T, a api.Auto) [][]api.Tree {
	t.Helper()
	l, e := auto.Least(a)
	same(t, e, api.OK, "Least")
	var all [][]api.Tree
	for state, w := range l {
		same(t, w.Found, true, "reached", state)
		all = append(all, w.Forest)
	}
	return all
}

func leastTexts(t *testing.T, a api.Auto) string {
	t.Helper()
	var l []string
	for _, f := range leasts(t, a) {
		l = append(l, "["+forestText(f)+"]")
	}
	return strings.Join(l, " ")
}

// P6.4: the example of the chapter, and small grammars.
func TestBuild(t *testing.T) {
	for _, x := range [][3]string{
		{exampleText, "[] [a] [b] [a a] [a b]", "1100 0100 0001 0100 0011"},
		{"n:.\n", "[] [a]", "1 0"},
		{"n:~\n", "[]", "0"},
		{"n:!~\n", "[]", "1"},
		{"n:*[<>]n\n", "[] [0]", "1 0"},
		{"n:[a]n\n", "[] [a]", "0 0"},
		{"n:.\na:([a]a|[b]n)\n", "[] [a] [b]", "10 00 01"},
		{"n:.\na:([#]n|[$]n)\n", "[] [a] [0]", "10 00 01"},
		// definitions that no forest is of are no less of a list
		{"n:.\na:[a]n\nb:([b]b,[b]b)\n", "[] [a] [b]", "100 010 000"},
		// lists differ, though the same comes of them
		{"n:.\na:([a]n|([b]n,!~))\nb:!!([b]n,!~)\n", "[] [a] [b] [c]", "100 010 011 000"},
		{"n:(*[a]n|*[a]n)\nm:(([a]n,*[a]n)|.)\n", "[] [a] [b]", "11 11 00"},
	} {
		g := read(x[0])
		a, e := derive.Build(g)
		same(t, e, api.OK, x[0])
		same(t, auto.Check(a), api.OK, x[0])
		same(t, leastTexts(t, a), x[1], x[0])
		same(t, rows(a), x[2], x[0])
		guards, _ := grammar.Guards(g)
		same(t, plain(a.Guards), plain(guards), x[0])
	}
}

// kind is the list of some forests, and its text: "" if it is too large.
type kind struct {
	list []api.Re
	key  string
}

func newKind(g api.Grammar, list []api.Re) kind {
	for _, r := range list {
		if size(r) > api.MaxDerived {
			return kind{}
		}
	}
	return kind{list, texts(g, list)}
}

// next is the list behind one more tree.
func (x kind) next(g api.Grammar, h api.Head, kids kind) kind {
	var is []bool
	for _, r := range kids.list {
		is = append(is, isNull(g, r))
	}
	var list []api.Re
	for _, r := range x.list {
		list = append(list, rewritten(derivative(g, r, api.Tree{Head: h}, is)))
	}
	return newKind(g, list)
}

// kinds are the lists of all forests: more than MaxStates, or one that is too large, if there is no automaton.
func kinds(g api.Grammar, regions []api.Region) []kind {
	l := []kind{newKind(g, listOf(g, nil))}
	for at := 0; at < len(l); at++ {
		for k := range at + 1 {
			for _, r := range regions {
				for _, pair := range [][2]int{{at, k}, {k, at}} {
					if r.Least.Kind != api.Elem && pair[1] > 0 {
						continue
					}
					next := l[pair[0]].next(g, r.Least, l[pair[1]])
					if !slices.ContainsFunc(l, func(x kind) bool { return x.key == next.key }) {
						l = append(l, next)
					}
					if next.key == "" || len(l) > api.MaxStates {
						return l
					}
				}
			}
		}
	}
	return l
}

// behind is a forest with one more tree.
func behind(f []api.Tree, h api.Head, kids []api.Tree) []api.Tree {
	return append(slices.Clip(f), api.Tree{Head: h, Kids: kids})
}

// P6.4: an automaton has just the lists of all forests as states, in the order of their least forests, and leads from list to list; there is none just if there are too many, or one is too large.
func TestBuilt(t *testing.T) {
	limits := 0
	for seed := range uint64(300) {
		m := newMaker(seed, plainOps)
		if seed%4 == 0 {
			m.ops = allOps
		}
		g := m.grammar(3, 6)
		if seed%20 == 0 {
			g = m.mixed(9)
		}
		a, e := derive.Build(g)
		guards, _ := grammar.Guards(g)
		regions, _ := guard.Regions(guards)
		found := kinds(g, regions)
		if slices.ContainsFunc(found, func(x kind) bool { return x.key == "" }) || len(found) > api.MaxStates {
			same(t, e, api.ErrLimit, grammarText(g))
			same(t, len(a.Guards)+len(a.Next)+len(a.Yes), 0, grammarText(g))
			limits++
			continue
		}
		same(t, e, api.OK, grammarText(g))
		same(t, auto.Check(a), api.OK, grammarText(g))
		same(t, plain(a.Guards), plain(guards), grammarText(g))
		same(t, len(a.Next), len(found), "states", grammarText(g))
		trimmed, e := auto.Trim(a)
		same(t, e, api.OK, grammarText(g))
		same(t, plain(trimmed), plain(a), "trimmed", grammarText(g))
		leadsOn(t, g, a, regions)
	}
	same(t, limits > 5, true, "limits", limits)
}

// leadsOn asks for the states to be different lists, and for each step to be what lists say.
func leadsOn(t *testing.T, g api.Grammar, a api.Auto, regions []api.Region) {
	t.Helper()
	var l []kind
	seen := map[string]bool{}
	for state, f := range leasts(t, a) {
		x := newKind(g, listOf(g, f))
		l = append(l, x)
		seen[x.key] = true
		is, e := grammar.All(g, f)
		same(t, e, api.OK, grammarText(g), forestText(f))
		same(t, bits(a.Yes[state]), bits(is), "Yes", grammarText(g), forestText(f))
	}
	same(t, len(seen), len(l), "different lists", grammarText(g))
	for front, rows := range a.Next {
		for region, row := range rows {
			for kids, next := range row {
				if regions[region].Least.Kind != api.Elem && kids != 0 {
					same(t, next, 0, "numbers and texts have no kids", grammarText(g))
					continue
				}
				same(t, l[next].key, l[front].next(g, regions[region].Least, l[kids]).key, "Next", grammarText(g), front, region, kids)
			}
		}
	}
}

// P6.4: the least forest of each state is the first of all that have its list.
func TestFirst(t *testing.T) {
	for seed := range uint64(60) {
		m := newMaker(seed, plainOps)
		g := m.grammar(3, 6)
		a, e := derive.Build(g)
		if e != api.OK {
			continue
		}
		regions, _ := guard.Regions(a.Guards)
		first := map[string]string{}
		for _, f := range smallForests(regions, 2) {
			if k := texts(g, listOf(g, f)); first[k] == "" {
				first[k] = "[" + forestText(f) + "]"
			}
		}
		for _, f := range leasts(t, a) {
			if count, _ := tree.Size(f); count <= 2 {
				same(t, "["+forestText(f)+"]", first[texts(g, listOf(g, f))], grammarText(g))
			}
		}
	}
}

// smallForests are all forests of least heads with at most so many trees, in the order of their sizes first.
func smallForests(regions []api.Region, most int) [][]api.Tree {
	bySize := [][][]api.Tree{{nil}}
	for count := 1; count <= most; count++ {
		var l [][]api.Tree
		for inside := range count {
			for _, front := range bySize[count-1-inside] {
				for _, kids := range bySize[inside] {
					for _, r := range regions {
						if r.Least.Kind == api.Elem || inside == 0 {
							l = append(l, behind(front, r.Least, kids))
						}
					}
				}
			}
		}
		slices.SortFunc(l, func(f, g []api.Tree) int {
			c, _ := tree.Compare(f, g)
			return c
		})
		bySize = append(bySize, l)
	}
	return slices.Concat(bySize...)
}

// P6.5, P6.11: the state of a forest says of which definitions it is; forests have the same state just if they have the same list, and then what is put behind them, or around them, has the same list again.
func TestStates(t *testing.T) {
	for seed := range uint64(150) {
		m := newMaker(seed, plainOps)
		g := m.grammar(4, 7)
		a, e := derive.Build(g)
		if e != api.OK {
			continue
		}
		states := map[string]int{}
		byState := map[int][]api.Tree{}
		for range 30 {
			f := m.forest(6)
			state, e := auto.Run(a, f)
			same(t, e, api.OK, grammarText(g), forestText(f))
			is, e := derive.Profile(g, f)
			same(t, e, api.OK, grammarText(g), forestText(f))
			all, _ := grammar.All(g, f)
			same(t, bits(is), bits(all), grammarText(g), forestText(f))
			same(t, bits(a.Yes[state]), bits(all), grammarText(g), forestText(f))
			l := list(g, f)
			if other, is := byState[state]; is {
				same(t, l, list(g, other), "the same state", grammarText(g), forestText(f), forestText(other))
				more := m.forest(3)
				same(t, list(g, slices.Concat(f, more)), list(g, slices.Concat(other, more)), "behind them", grammarText(g), forestText(f), forestText(other))
				h := m.forest(9)
				h = append(h, forest("a")...)[:1]
				if h[0].Kind == api.Elem {
					same(t, list(g, behind(more, h[0].Head, f)), list(g, behind(more, h[0].Head, other)), "around them", grammarText(g), forestText(f), forestText(other))
				}
			}
			if other, is := states[l]; is {
				same(t, other, state, "the same list", grammarText(g), forestText(f))
			}
			states[l], byState[state] = state, f
		}
	}
}

// cycle is a star of so many trees.
func cycle(count int, one api.Re) api.Re {
	r := one
	for range count - 1 {
		r = re(api.RSeq, one, r)
	}
	return re(api.RStar, r)
}

// P6.4: an automaton can have MaxStates states, and no more.
func TestManyStates(t *testing.T) {
	whole, one := re(api.RNot, re(api.RNone)), label("a", 0)
	// the lengths of lists modulo 39, and one more list, of all that are not of elements a alone
	a, e := derive.Build(named(whole, cycle(3, one), cycle(13, one)))
	same(t, e, api.OK, "3 and 13")
	same(t, len(a.Next), api.MaxStates, "states")
	state, e := auto.Run(a, slices.Repeat(forest("a"), 39*7+5))
	same(t, e, api.OK, "Run")
	same(t, state, 6, "the state of a list of 278 elements") // the forest `0` is between the empty one and `a a`
	// numbers have no kids, so that there are no lists of such ones with kids
	a, e = derive.Build(named(re(api.REps), one, cycle(3, tree1("#", 1)), cycle(13, tree1("#", 1))))
	same(t, e, api.OK, "no numbers with kids")
	same(t, leastTexts(t, a), "[] [a] [b]", "no numbers with kids")
	_, e = derive.Build(named(whole, cycle(5, one), cycle(8, one)))
	same(t, e, api.ErrLimit, "5 and 8")
	_, e = derive.Build(named(whole, cycle(7, one), cycle(11, one)))
	same(t, e, api.ErrLimit, "7 and 11")
}

// P6.4: an expression in a state can have MaxDerived expressions, and no more.
func TestLargeStates(t *testing.T) {
	g := named(re(api.REps), re(api.REps), wide(fill(15)))
	a, e := derive.Build(g)
	same(t, e, api.OK, "150")
	same(t, auto.Check(a), api.OK, "150")
	g.Defs[2].Body = wide(fill(16))
	_, e = derive.Build(g)
	same(t, e, api.ErrLimit, "151")
	// what no forest leads to does not count
	g.Defs[2].Body = re(api.RSeq, re(api.RAnd, label("a", 0), re(api.RNone)), wide(fill(16)))
	_, e = derive.Build(g)
	same(t, e, api.OK, "behind nothing")
	_, e = derive.Build(doubling())
	same(t, e, api.ErrLimit, "half a million")
}

// towers is a grammar of so many definitions, of which each, but the first one, has forests of two elements with kids of the one before.
func towers(count int) api.Grammar {
	bodies := []api.Re{re(api.REps)}
	for at := 1; at < count; at++ {
		bodies = append(bodies, re(api.RSeq, label("a", at-1), label("a", at-1)))
	}
	return named(bodies...)
}

// P6.4: a least forest of a state can be too large.
func TestLargeForests(t *testing.T) {
	a, e := derive.Build(towers(8))
	same(t, e, api.OK, "254 trees")
	some, e := auto.Some(a, 7)
	same(t, e, api.OK, "254 trees")
	count, _ := tree.Size(some.Forest)
	same(t, count, 254, "254 trees")
	_, e = derive.Build(towers(9))
	same(t, e, api.ErrLimit, "510 trees")
}

// P6.4, P0.1: the largest automata, with most of the regions that there can be, take no time to speak of.
func TestManyRegions(t *testing.T) {
	rest := tree1("<>", 0)
	for _, s := range []string{`(@k&!((@k="1"|@k="2")|@k="3"))`, `(@k="2"|@k="3")`, `((@k="1"|@k="3")|(@k&!((@k="1"|@k="2")|(@k="3"|@k="4"))))`} {
		for _, k := range []string{"k", "l", "m"} {
			rest = re(api.RAlt, tree1(strings.ReplaceAll(s, "@k", "@"+k), 0), rest)
		}
	}
	bodies := []api.Re{re(api.RNot, re(api.RNone)), cycle(3, tree1("<>", 0)), cycle(13, tree1("<>", 0)), re(api.RStar, rest)}
	a, e := derive.Build(named(bodies...))
	same(t, e, api.OK, "Build")
	same(t, len(a.Next), api.MaxStates, "states")
	same(t, len(a.Next[0]) > 200, true, "regions", len(a.Next[0]))
	bodies[2] = re(api.RAlt, bodies[2], label("a", 0))
	_, e = derive.Build(named(bodies...))
	same(t, e, api.ErrLimit, "too many states")
}

// tree1 is the expression of a tree with a guard.
func tree1(s string, def int) api.Re {
	g, e := guard.Parse(s)
	if e != api.OK {
		panic(s)
	}
	return api.Re{Op: api.RTree, Guard: g, Def: def}
}
