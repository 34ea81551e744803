package derive_test

import (
	"fmt"
	"math/rand/v2"
	"strings"
	"testing"

	"withy/api"
	"withy/derive"
	"withy/grammar"
	"withy/guard"
	"withy/tree"
)

// exampleText is the text of G of the chapter.
const exampleText = "none:.\nlist:*[a]none\npair:([a]none,[b]none)\nnot:!list\n"

// read returns the grammar of a text.
func read(s string) api.Grammar {
	g, e := grammar.Parse(s)
	if e != api.OK {
		panic(fmt.Sprint(s, e))
	}
	return g
}

// in returns an expression in a grammar, written as the Body of one more definition.
func in(g api.Grammar, re string) api.Re {
	text, e := grammar.Print(g)
	if e != api.OK {
		panic(fmt.Sprint(g, e))
	}
	g = read(text + "x:" + re + "\n")
	return g.Defs[len(g.Defs)-1].Body
}

// forest returns the forest of a text.
func forest(s string) []api.Tree {
	f, e := tree.Parse(s)
	if e != api.OK {
		panic(fmt.Sprint(s, e))
	}
	return f
}

func forestText(f []api.Tree) string {
	s, _ := tree.Print(f)
	return s
}

var marks = map[api.ReOp]string{api.RNone: "~", api.REps: ".", api.RSeq: ",", api.RAlt: "|", api.RStar: "*", api.RAnd: "&", api.RNot: "!", api.RMix: "%"}

// text is the text of an expression in a grammar, however large it is.
func text(g api.Grammar, r api.Re) string {
	switch {
	case r.Op == api.RTree:
		s, _ := guard.Print(r.Guard)
		return "[" + s + "]" + g.Defs[r.Def].Name
	case r.Op == api.RRef:
		return g.Defs[r.Def].Name
	case len(r.Subs) == 2:
		return "(" + text(g, r.Subs[0]) + marks[r.Op] + text(g, r.Subs[1]) + ")"
	case len(r.Subs) == 1:
		return marks[r.Op] + text(g, r.Subs[0])
	}
	return marks[r.Op]
}

func texts(g api.Grammar, l []api.Re) string {
	var all []string
	for _, r := range l {
		all = append(all, text(g, r))
	}
	return strings.Join(all, " ")
}

// told is what a function has returned: an expression as a text, or an error, with which nothing else comes.
func told(g api.Grammar, r api.Re, e api.Errno) string {
	if e != api.OK {
		return fmt.Sprintf("error %d%s", e, strings.TrimPrefix(plain(r), plain(api.Re{})))
	}
	return text(g, r)
}

// listed is told of a list.
func listed(g api.Grammar, l []api.Re, e api.Errno) string {
	if e != api.OK {
		return fmt.Sprintf("error %d%s", e, strings.TrimPrefix(plain(l), "[]"))
	}
	return texts(g, l)
}

func failed(e api.Errno) string { return fmt.Sprintf("error %d", e) }

// normal, along and list are what the functions return, as texts.
func normal(g api.Grammar, r api.Re) string {
	n, e := derive.Normal(g, r)
	return told(g, n, e)
}

func along(g api.Grammar, r api.Re, f []api.Tree) string {
	d, e := derive.Along(g, r, f)
	return told(g, d, e)
}

func list(g api.Grammar, f []api.Tree) string {
	l, e := derive.List(g, f)
	return listed(g, l, e)
}

// bits are truths as a text.
func bits(l []bool) string {
	s := ""
	for _, is := range l {
		s += map[bool]string{false: "0", true: "1"}[is]
	}
	return s
}

// plain is a value as a text that does not tell nil from empty.
func plain(x any) string { return fmt.Sprintf("%v", x) }

func same[T comparable](t *testing.T, got, want T, what ...any) {
	t.Helper()
	if got != want {
		t.Errorf("%s: %s, not %s", brief(what), brief(got), brief(want))
	}
}

func brief(x any) string {
	s := plain(x)
	if len(s) > 500 {
		return s[:250] + ".." + s[len(s)-250:]
	}
	return s
}

func re(op api.ReOp, subs ...api.Re) api.Re { return api.Re{Op: op, Subs: subs} }

func ref(def int) api.Re { return api.Re{Op: api.RRef, Def: def} }

// label is an expression of elements with a label, with kids of a definition.
func label(name string, def int) api.Re {
	return api.Re{Op: api.RTree, Guard: api.Guard{Op: api.GLabel, Name: name}, Def: def}
}

// endless is an expression that holds itself.
func endless() api.Re {
	r := re(api.RSeq, re(api.REps), re(api.REps))
	r.Subs[0] = r
	return r
}

// named returns the grammar of these Bodies, with the names d0, d1 and so on.
func named(bodies ...api.Re) api.Grammar {
	var g api.Grammar
	for i, r := range bodies {
		g.Defs = append(g.Defs, api.Def{Name: fmt.Sprint("d", i), Body: r})
	}
	return g
}

// size is how many expressions an expression has.
func size(r api.Re) int {
	count := 1
	for _, sub := range r.Subs {
		count += size(sub)
	}
	return count
}

// maker makes random grammars, expressions and forests, the same ones for the same seed.
type maker struct {
	*rand.Rand
	ops []api.ReOp
}

var (
	allOps   = []api.ReOp{api.RNone, api.REps, api.RTree, api.RTree, api.RTree, api.RTree, api.RSeq, api.RSeq, api.RAlt, api.RAlt, api.RStar, api.RAnd, api.RNot, api.RMix, api.RRef}
	mixOps   = []api.ReOp{api.RTree, api.RTree, api.RTree, api.RMix, api.RMix, api.RSeq, api.RStar, api.RStar, api.RRef}
	plainOps = []api.ReOp{api.REps, api.RTree, api.RTree, api.RTree, api.RTree, api.RSeq, api.RSeq, api.RAlt, api.RAlt, api.RStar, api.RNot, api.RRef}
)

func newMaker(seed uint64, ops []api.ReOp) maker { return maker{rand.New(rand.NewPCG(6, seed)), ops} }

// guard is one of so few that a grammar can have all of them.
func (m maker) guard() api.Guard {
	l := []string{"a", "b", "*", "#", "!a", "(a|b)", "@k", "<1"}
	g, _ := guard.Parse(l[min(m.IntN(len(l)), m.IntN(len(l)))])
	return g
}

// expression returns one of at most so many expressions, that names so many definitions, of `defs`.
func (m maker) expression(most, names, defs int) api.Re {
	for {
		op := m.ops[m.IntN(len(m.ops))]
		switch {
		case op == api.RTree && (most < 3 || m.IntN(3) == 0):
			return api.Re{Op: op, Guard: m.guard(), Def: m.IntN(defs)}
		case op == api.RRef && names > 0 && m.IntN(2) == 0:
			return ref(m.IntN(names))
		case (op == api.RNone || op == api.REps) && m.IntN(4) == 0:
			return re(op)
		case (op == api.RStar || op == api.RNot) && most > 1:
			return re(op, m.expression(most-1, names, defs))
		case (op == api.RSeq || op == api.RAlt || op == api.RAnd || op == api.RMix) && most > 2:
			first := 1 + m.IntN(most-2)
			one := m.expression(first, names, defs)
			return re(op, one, m.expression(most-1-first, names, defs))
		}
	}
}

// grammar returns one of at most so many definitions, with at most so many expressions each.
func (m maker) grammar(most, each int) api.Grammar {
	count := 1 + m.IntN(most)
	var bodies []api.Re
	for at := range count {
		bodies = append(bodies, m.expression(1+m.IntN(each), at, count))
	}
	return named(bodies...)
}

// mixed returns a grammar with a mix of two stars of at most so many expressions.
func (m maker) mixed(most int) api.Grammar {
	m.ops = mixOps
	one := re(api.RStar, m.expression(most, 0, 2))
	return named(re(api.REps), re(api.RMix, one, re(api.RStar, m.expression(most, 0, 2))))
}

// forest returns one of at most so many trees.
func (m maker) forest(most int) []api.Tree {
	heads := forest(`a b a b(k="v") c 7 1/2 "x"`)
	var f []api.Tree
	for left := m.IntN(most + 1); left > 0; left-- {
		t := heads[min(m.IntN(len(heads)), m.IntN(len(heads)))]
		if t.Kind == api.Elem && m.IntN(3) == 0 {
			t.Kids = m.forest(left - 1)
			count, _ := tree.Size(t.Kids)
			left -= count
		}
		f = append(f, t)
	}
	return f
}
