package grammar_test

import (
	"fmt"
	"math/rand/v2"
	"slices"
	"strings"
	"testing"

	"withy/api"
	"withy/grammar"
	"withy/guard"
	"withy/tree"
)

// The tests hold what the functions return against another reading of the chapter, which shares no code with the package: forests are made by expressions, and not looked up in them, or looked up piece by piece; what is made of grammars is told by their texts.

func re(op api.ReOp, subs ...api.Re) api.Re { return api.Re{Op: op, Subs: subs} }

func one(g api.Guard, def int) api.Re { return api.Re{Op: api.RTree, Guard: g, Def: def} }

func ref(def int) api.Re { return api.Re{Op: api.RRef, Def: def} }

func label(name string) api.Guard { return api.Guard{Op: api.GLabel, Name: name} }

func notGuard(g api.Guard) api.Guard { return api.Guard{Op: api.GNot, Subs: []api.Guard{g}} }

func none() api.Re { return re(api.RNone) }

func eps() api.Re { return re(api.REps) }

func seq(a, b api.Re) api.Re { return re(api.RSeq, a, b) }

func alt(a, b api.Re) api.Re { return re(api.RAlt, a, b) }

func and(a, b api.Re) api.Re { return re(api.RAnd, a, b) }

func mix(a, b api.Re) api.Re { return re(api.RMix, a, b) }

func star(a api.Re) api.Re { return re(api.RStar, a) }

func not(a api.Re) api.Re { return re(api.RNot, a) }

func def(name string, body api.Re) api.Def { return api.Def{Name: name, Body: body} }

func defs(l ...api.Def) api.Grammar { return api.Grammar{Defs: l} }

// named returns the grammar of these Bodies, with the names d0, d1 and so on.
func named(bodies ...api.Re) api.Grammar {
	var g api.Grammar
	for i, r := range bodies {
		g.Defs = append(g.Defs, def(fmt.Sprint("d", i), r))
	}
	return g
}

// exampleText is the text of G of the chapter.
const exampleText = "none:.\ntext:*([$]none|[b]text)\npar:[p]text\nhead:[h]text\nbody:*(par|head)\ndoc:[doc]body\n"

// endless is an expression that holds itself.
func endless() api.Re {
	r := seq(eps(), eps())
	r.Subs[0] = r
	return r
}

// endlessGuard is a guard that holds itself.
func endlessGuard() api.Guard {
	g := notGuard(api.Guard{})
	g.Subs[0] = g
	return g
}

// nots is an expression within so many RNot.
func nots(count int, r api.Re) api.Re {
	for range count {
		r = not(r)
	}
	return r
}

// flat is an expression, and those in it, in order.
func flat(r api.Re) []api.Re {
	l := []api.Re{r}
	for _, sub := range r.Subs {
		l = append(l, flat(sub)...)
	}
	return l
}

// allOf are the expressions of a grammar, in order.
func allOf(g api.Grammar) []api.Re {
	var l []api.Re
	for _, d := range g.Defs {
		l = append(l, flat(d.Body)...)
	}
	return l
}

// guardText is the text of a guard, with errors or without.
func guardText(g api.Guard) string {
	value := `"` + strings.NewReplacer(`"`, `\"`, `\`, `\\`).Replace(g.Value) + `"`
	at := fmt.Sprint(g.At.N)
	if g.At.D != 1 {
		at += fmt.Sprint("/", g.At.D)
	}
	var subs []string
	for _, sub := range g.Subs {
		subs = append(subs, guardText(sub))
	}
	return map[api.GuardOp]string{
		api.GAll: "*", api.GElem: "<>", api.GNumber: "#", api.GText: "$", api.GWhole: "%", api.GLabel: g.Name, api.GHas: "@" + g.Name, api.GAttr: "@" + g.Name + "=" + value, api.GBelow: "<" + at, api.GIs: value, api.GStarts: "^" + value,
		api.GNot: "!" + strings.Join(subs, ""), api.GAnd: "(" + strings.Join(subs, "&") + ")", api.GOr: "(" + strings.Join(subs, "|") + ")",
	}[g.Op]
}

// reText is the text of an expression whose definitions have these names.
func reText(r api.Re, names []string) string {
	var subs []string
	for _, sub := range r.Subs {
		subs = append(subs, reText(sub, names))
	}
	mark := map[api.ReOp]string{api.RNone: "~", api.REps: ".", api.RSeq: ",", api.RAlt: "|", api.RStar: "*", api.RAnd: "&", api.RNot: "!", api.RMix: "%"}[r.Op]
	switch {
	case r.Op == api.RTree:
		return "[" + guardText(r.Guard) + "]" + names[r.Def]
	case r.Op == api.RRef:
		return names[r.Def]
	case len(subs) > 1:
		return "(" + strings.Join(subs, mark) + ")"
	}
	return mark + strings.Join(subs, "")
}

func namesOf(g api.Grammar) []string {
	var names []string
	for _, d := range g.Defs {
		names = append(names, d.Name)
	}
	return names
}

// lines are the lines of the text of a grammar.
func lines(g api.Grammar) []string {
	var l []string
	for _, d := range g.Defs {
		l = append(l, d.Name+":"+reText(d.Body, namesOf(g))+"\n")
	}
	return l
}

func grammarText(g api.Grammar) string { return strings.Join(lines(g), "") }

// told is what a function has returned: the text of a grammar, or an error, with which nothing else comes.
func told(g api.Grammar, e api.Errno) string {
	if e != api.OK {
		return fmt.Sprintf("error %d%s", e, grammarText(g))
	}
	return grammarText(g)
}

func failed(e api.Errno) string { return fmt.Sprintf("error %d", e) }

// plain is a value as a text that does not tell nil from empty.
func plain(x any) string { return fmt.Sprintf("%v", x) }

func must(t *testing.T, s string) api.Grammar {
	t.Helper()
	g, e := grammar.Parse(s)
	if e != api.OK {
		t.Fatalf("Parse(%q): %v", s, e)
	}
	return g
}

func forest(t *testing.T, s string) []api.Tree {
	t.Helper()
	f, e := tree.Parse(s)
	if e != api.OK {
		t.Fatalf("Parse(%q): %v", s, e)
	}
	return f
}

func forestText(f []api.Tree) string {
	s, _ := tree.Print(f)
	return s
}

func same[T comparable](t *testing.T, got, want T, what ...any) {
	t.Helper()
	if got != want {
		t.Errorf("%s: %s, not %s", brief(what), brief(got), brief(want))
	}
}

func brief(x any) string {
	s := fmt.Sprintf("%v", x)
	if len(s) > 500 {
		return s[:250] + ".." + s[len(s)-250:]
	}
	return s
}

func elem(name string, kids ...api.Tree) api.Tree {
	return api.Tree{Head: api.Head{Label: name}, Kids: kids}
}

// row is so many elements with a label.
func row(name string, count int) []api.Tree {
	return slices.Repeat([]api.Tree{elem(name)}, count)
}

// sorts are the kinds of expressions that a random grammar has.
type sorts []api.ReOp

// maker makes random grammars and forests, the same ones for the same seed.
type maker struct {
	*rand.Rand
	guards []api.Guard
	sorts  sorts
}

var (
	allSorts   = sorts{api.RNone, api.REps, api.RTree, api.RTree, api.RTree, api.RSeq, api.RSeq, api.RAlt, api.RAlt, api.RStar, api.RAnd, api.RNot, api.RMix, api.RRef}
	plainSorts = sorts{api.REps, api.RTree, api.RTree, api.RTree, api.RSeq, api.RSeq, api.RAlt, api.RStar, api.RRef}
	longSorts  = sorts{api.RNone, api.REps, api.RTree, api.RTree, api.RTree, api.RSeq, api.RSeq, api.RAlt, api.RAlt, api.RStar, api.RAnd, api.RNot, api.RRef}
)

func newMaker(seed uint64, s sorts) maker {
	m := maker{Rand: rand.New(rand.NewPCG(5, seed)), sorts: s}
	for _, s := range []string{"a", "b", "*", "#", "!a", "(a|b)", "<>", "$", "@k", "<1", `"x"`} {
		g, e := guard.Parse(s)
		if e != api.OK {
			panic(s)
		}
		m.guards = append(m.guards, g)
	}
	return m
}

// expression returns one of at most so many expressions, of the definition `at` of so many.
func (m maker) expression(count, at, defs int) api.Re {
	for {
		switch op := m.sorts[m.IntN(len(m.sorts))]; op {
		case api.RTree:
			if count < 3 || m.IntN(3) == 0 {
				return one(m.guards[min(m.IntN(len(m.guards)), m.IntN(len(m.guards)))], m.IntN(defs))
			}
		case api.RRef:
			if at > 0 {
				return ref(m.IntN(at))
			}
		case api.RSeq, api.RAlt, api.RAnd, api.RMix:
			if count > 2 {
				front := 1 + m.IntN(count-2)
				a := m.expression(front, at, defs)
				b := m.expression(count-1-front, at, defs)
				return re(op, a, b)
			}
		case api.RStar, api.RNot:
			if count > 1 {
				return re(op, m.expression(count-1, at, defs))
			}
		default:
			if count < 3 || m.IntN(8) == 0 {
				return re(op)
			}
		}
	}
}

// grammar returns one of at most so many definitions, with at most so many expressions each.
func (m maker) grammar(most, each int) api.Grammar {
	count := 1 + m.IntN(most)
	var bodies []api.Re
	for at := range count {
		bodies = append(bodies, m.expression(1+m.IntN(each), at, count))
	}
	return named(bodies...)
}

// forest returns one of at most so many trees.
func (m maker) forest(count int) []api.Tree {
	heads := []api.Head{{Label: "a"}, {Label: "b"}, {Label: "a"}, {Label: "c"}, {Label: "b", Attrs: []api.Attr{{Name: "k", Value: "v"}}}, {Kind: api.Number, Num: api.Num{N: 7, D: 1}}, {Kind: api.Number, Num: api.Num{N: 1, D: 2}}, {Kind: api.Text, Text: "x"}, {Kind: api.Text}}
	var f []api.Tree
	for left := m.IntN(count + 1); left > 0; {
		t := api.Tree{Head: heads[min(m.IntN(len(heads)), m.IntN(len(heads)))]}
		left--
		if t.Kind == api.Elem && m.IntN(3) == 0 {
			t.Kids = m.forest(left)
			size, _ := tree.Size(t.Kids)
			left -= size
		}
		f = append(f, t)
	}
	return f
}

// in returns, for each definition, whether a forest is of it, as a text; or the error.
func in(g api.Grammar, f []api.Tree) string {
	l, e := grammar.All(g, f)
	if e != api.OK {
		return fmt.Sprintf("error %d%v", e, l)
	}
	return bits(l)
}

func bits(l []bool) string {
	s := ""
	for _, is := range l {
		s += map[bool]string{false: "0", true: "1"}[is]
	}
	return s
}
