package grammar_test

import (
	"math/rand/v2"
	"regexp"
	"slices"
	"strings"
	"testing"

	"withy/api"
	"withy/grammar"
	"withy/guard"
)

// wrong is a grammar, and its error.
type wrong struct {
	g api.Grammar
	e api.Errno
}

func markedBy(labels ...string) api.Re {
	r := eps()
	for _, s := range labels {
		r = alt(one(label(s), 0), r)
	}
	return r
}

// guardsBy is an expression with so many guards, one within the other.
func guardsBy(count int) api.Re {
	r := eps()
	g := label("a")
	for range count {
		r = alt(one(g, 0), r)
		g = notGuard(g)
	}
	return r
}

// wrongGrammars are those with one error each, and with several of which the first one decides.
func wrongGrammars() []wrong {
	bad, odd := one(api.Guard{Op: 99}, 0), re(99)
	ok := named(slices.Repeat([]api.Re{eps()}, 12)...).Defs
	unnamed := one(label("A"), 0)
	return []wrong{
		{api.Grammar{}, api.ErrMany}, {api.Grammar{Defs: []api.Def{}}, api.ErrMany}, {defs(append(slices.Clone(ok), def("", odd))...), api.ErrMany}, {api.Grammar{Defs: make([]api.Def, 100000)}, api.ErrMany},
		{named(nots(60, odd)), api.ErrMany}, {named(nots(30, eps()), nots(29, eps())), api.ErrMany}, {named(api.Re{Op: api.REps, Subs: make([]api.Re, 60)}), api.ErrMany}, {defs(def("", endless())), api.ErrMany}, {named(eps(), endless()), api.ErrMany}, {named(api.Re{Subs: make([]api.Re, 1000000)}), api.ErrMany},
		{defs(def("", odd)), api.ErrName}, {defs(def("A", eps())), api.ErrName}, {defs(def("1a", eps())), api.ErrName}, {defs(def("a b", eps())), api.ErrName}, {defs(def("abcdefghi", eps())), api.ErrName}, {defs(def("a\xff", eps())), api.ErrName}, {defs(def("a", eps()), def("_", odd)), api.ErrName}, {defs(def(strings.Repeat("a", 1000000), eps())), api.ErrName},
		{defs(def("a", eps()), def("a", odd)), api.ErrTwice}, {defs(def("a", eps()), def("b", eps()), def("a", odd), def("", eps())), api.ErrTwice}, {defs(def("a", odd), def("a", eps())), api.ErrForm}, {defs(def("a", eps()), def("", odd), def("a", eps())), api.ErrName},
		{named(odd), api.ErrForm}, {named(re(10)), api.ErrForm}, {named(re(-1)), api.ErrForm}, {named(re(1 << 62)), api.ErrForm}, {named(re(-1 << 63)), api.ErrForm},
		{named(api.Re{Def: 1}), api.ErrForm}, {named(api.Re{Op: api.REps, Def: -1}), api.ErrForm}, {named(api.Re{Op: api.RStar, Def: 1, Subs: []api.Re{eps()}}), api.ErrForm}, {named(eps(), eps(), api.Re{Op: api.RSeq, Def: 1, Subs: []api.Re{eps(), eps()}}), api.ErrForm},
		{named(api.Re{Guard: label("a")}), api.ErrForm}, {named(api.Re{Op: api.REps, Guard: api.Guard{Name: "a"}}), api.ErrForm}, {named(api.Re{Op: api.REps, Guard: api.Guard{Value: "a"}}), api.ErrForm}, {named(api.Re{Op: api.REps, Guard: api.Guard{At: api.Num{D: 1}}}), api.ErrForm}, {named(api.Re{Op: api.REps, Guard: api.Guard{Subs: make([]api.Guard, 1)}}), api.ErrForm}, {named(api.Re{Op: api.REps, Guard: endlessGuard()}), api.ErrForm}, {named(eps(), api.Re{Op: api.RRef, Guard: label("a")}), api.ErrForm}, {named(api.Re{Op: api.RNot, Guard: label("a"), Subs: []api.Re{eps()}}), api.ErrForm},
		{named(re(api.RNone, eps())), api.ErrForm}, {named(re(api.REps, eps())), api.ErrForm}, {named(re(api.RTree, eps())), api.ErrForm}, {named(eps(), re(api.RRef, eps())), api.ErrForm}, {named(re(api.RStar)), api.ErrForm}, {named(re(api.RStar, eps(), eps())), api.ErrForm}, {named(re(api.RNot)), api.ErrForm}, {named(re(api.RNot, eps(), eps())), api.ErrForm},
		{named(re(api.RSeq)), api.ErrForm}, {named(re(api.RSeq, eps())), api.ErrForm}, {named(re(api.RSeq, eps(), eps(), eps())), api.ErrForm}, {named(re(api.RAlt, eps())), api.ErrForm}, {named(re(api.RAlt, eps(), eps(), eps())), api.ErrForm}, {named(re(api.RAnd, eps())), api.ErrForm}, {named(re(api.RAnd, eps(), eps(), eps())), api.ErrForm}, {named(re(api.RMix, eps())), api.ErrForm}, {named(re(api.RMix, eps(), eps(), eps())), api.ErrForm},
		{named(api.Re{Op: api.RTree, Guard: api.Guard{Op: 99}, Def: 1}), api.ErrAbsent}, {named(one(api.Guard{}, -1)), api.ErrAbsent}, {named(one(api.Guard{}, 1<<62)), api.ErrAbsent}, {named(eps(), one(label("A"), 2)), api.ErrAbsent}, {named(ref(1)), api.ErrAbsent}, {named(eps(), ref(-1)), api.ErrAbsent}, {named(eps(), ref(-1<<63)), api.ErrAbsent},
		{named(ref(0)), api.ErrOrder}, {named(ref(1), eps()), api.ErrOrder}, {named(eps(), ref(1)), api.ErrOrder}, {named(eps(), seq(ref(0), ref(2)), eps()), api.ErrOrder}, {named(star(ref(0))), api.ErrOrder},
		{named(unnamed), api.ErrName}, {named(bad), api.ErrForm}, {named(one(endlessGuard(), 0)), api.ErrMany}, {named(one(api.Guard{Op: api.GIs, Value: "\n"}, 0)), api.ErrRange}, {named(one(api.Guard{Op: api.GBelow, At: api.Num{N: 2, D: 2}}, 0)), api.ErrForm}, {named(one(api.Guard{Op: api.GBelow, At: api.Num{N: 1001, D: 1}}, 0)), api.ErrRange},
		{named(seq(unnamed, odd)), api.ErrName}, {named(seq(odd, unnamed)), api.ErrForm}, {named(seq(unnamed, ref(0))), api.ErrName}, {named(seq(ref(0), unnamed)), api.ErrOrder}, {named(unnamed, odd), api.ErrName}, {named(alt(ref(5), ref(0))), api.ErrAbsent}, {named(alt(ref(0), ref(5))), api.ErrOrder}, {named(alt(seq(eps(), unnamed), ref(5))), api.ErrName}, {defs(def("a", unnamed), def("", eps())), api.ErrName}, {defs(def("a", ref(0)), def("", eps())), api.ErrOrder}, {named(re(99, unnamed)), api.ErrForm},
		{named(markedBy("a", "b", "c", "d", "e")), api.ErrLimit}, {named(markedBy("a", "b", "c"), markedBy("d", "e")), api.ErrLimit}, {named(markedBy("a", "b", "c", "d", "e"), odd), api.ErrForm}, {named(markedBy("a", "b", "c", "d", "e"), ref(1)), api.ErrOrder}, {named(guardsBy(12)), api.ErrMany}, {named(guardsBy(12), unnamed), api.ErrName}, {named(seq(guardsBy(12), markedBy("b", "c", "d", "e"))), api.ErrMany}, {defs(def("a", guardsBy(12)), def("a", eps())), api.ErrTwice},
	}
}

// rightGrammars are those that are allowed, limits included.
func rightGrammars() []api.Grammar {
	long := one(api.Guard{Subs: []api.Guard{}}, 0)
	long.Subs = []api.Re{}
	return []api.Grammar{
		named(none()), named(eps()), named(slices.Repeat([]api.Re{eps()}, 12)...), named(nots(59, eps())), named(nots(30, eps()), nots(28, eps())),
		defs(def("abcdefgh", eps())), defs(def("a", eps()), def("b", eps())), defs(def("a", eps()), def("z9z9z9z9", ref(0))), named(one(label("a"), 1), one(label("a"), 0)),
		named(guardsBy(11)), named(alt(guardsBy(11), guardsBy(11))), named(markedBy("a", "b", "c", "d")), named(alt(guardsBy(11), one(api.Guard{Op: api.GElem}, 0))), named(one(api.Guard{}, 0)), named(long), named(api.Re{Op: api.REps, Guard: api.Guard{Subs: []api.Guard{}}, Subs: []api.Re{}}),
		named(none(), mix(seq(ref(0), star(eps())), and(not(eps()), alt(eps(), none())))), named(eps(), ref(0), ref(1), seq(ref(0), ref(2))),
	}
}

var nameForm = regexp.MustCompile(`^[a-z][a-z0-9]{0,7}$`)

// errorOf is the error of a grammar, by the chapter.
func errorOf(g api.Grammar) api.Errno {
	if len(g.Defs) < 1 || len(g.Defs) > 12 || len(allOf(g)) > 60 {
		return api.ErrMany
	}
	names := map[string]bool{}
	for i, d := range g.Defs {
		switch {
		case !nameForm.MatchString(d.Name):
			return api.ErrName
		case names[d.Name]:
			return api.ErrTwice
		}
		names[d.Name] = true
		for _, r := range flat(d.Body) {
			if e := errorAt(g, i, r); e != api.OK {
				return e
			}
		}
	}
	return guard.CheckList(guardsBySeen(g))
}

func errorAt(g api.Grammar, def int, r api.Re) api.Errno {
	subs, known := map[api.ReOp]int{api.RNone: 0, api.REps: 0, api.RTree: 0, api.RRef: 0, api.RStar: 1, api.RNot: 1, api.RSeq: 2, api.RAlt: 2, api.RAnd: 2, api.RMix: 2}[r.Op]
	isTree, isRef := r.Op == api.RTree, r.Op == api.RRef
	bare := r.Guard.Op == 0 && r.Guard.Name+r.Guard.Value == "" && r.Guard.At == api.Num{} && len(r.Guard.Subs) == 0
	switch {
	case !known || len(r.Subs) != subs || !isTree && !bare || !isTree && !isRef && r.Def != 0:
		return api.ErrForm
	case (isTree || isRef) && (r.Def < 0 || r.Def >= len(g.Defs)):
		return api.ErrAbsent
	case isRef && r.Def >= def:
		return api.ErrOrder
	case isTree:
		return guard.Check(r.Guard)
	}
	return api.OK
}

// guardsBySeen are the guards of a grammar, which are told apart by their texts.
func guardsBySeen(g api.Grammar) []api.Guard {
	l := []api.Guard{{Op: api.GElem}}
	seen := map[string]bool{"<>": true}
	for _, r := range allOf(g) {
		if s := guardText(r.Guard); r.Op == api.RTree && !seen[s] {
			seen[s] = true
			l = append(l, r.Guard)
		}
	}
	return l
}

// spoil changes something somewhere in a grammar.
func spoil(r *rand.Rand, g *api.Grammar) {
	d := &g.Defs[r.IntN(len(g.Defs))]
	at := &d.Body
	for len(at.Subs) > 0 && r.IntN(4) > 0 {
		at = &at.Subs[r.IntN(len(at.Subs))]
	}
	switch r.IntN(9) {
	case 0:
		d.Name = []string{"", "A", "abcdefghi", "d0", "d1", "zz"}[r.IntN(6)]
	case 1:
		at.Op = api.ReOp(r.IntN(14) - 2)
	case 2:
		at.Def = r.IntN(5) - 1
	case 3:
		at.Subs = append(at.Subs, eps())
	case 4:
		at.Subs = at.Subs[:len(at.Subs)*r.IntN(2)]
	case 5:
		at.Guard = []api.Guard{label("a"), label("A"), label("abcdefghi"), {Op: api.GBelow, At: api.Num{N: 1001, D: 1}}, label("q"), {Op: 99}, {Op: api.GIs, Value: "x\n"}, notGuard(label("b")), {Op: api.GNot}}[r.IntN(9)]
	case 6:
		*at = markedBy("a", "b", "c", "e", "f"[:r.IntN(2)])
	case 7:
		*at = nots(r.IntN(60), *at)
	case 8:
		*at = ref(r.IntN(4))
	}
}

// P5.1: Check.
func TestCheck(t *testing.T) {
	for i, x := range wrongGrammars() {
		same(t, grammar.Check(x.g), x.e, "Check of a wrong one", i)
	}
	for i, g := range rightGrammars() {
		same(t, grammar.Check(g), api.OK, "Check of a right one", i)
		same(t, errorOf(g), api.OK, "the error of a right one", i)
	}
	seen := map[api.Errno]int{}
	for seed := range uint64(6000) {
		m := newMaker(seed, allSorts)
		g := m.grammar(5, 9)
		same(t, grammar.Check(g), api.OK, "Check", grammarText(g))
		for range 1 + m.IntN(3) {
			spoil(m.Rand, &g)
		}
		e := errorOf(g)
		seen[e]++
		same(t, grammar.Check(g), e, "Check of what was spoilt", seed)
	}
	for _, e := range []api.Errno{api.OK, api.ErrMany, api.ErrName, api.ErrTwice, api.ErrForm, api.ErrAbsent, api.ErrOrder, api.ErrRange, api.ErrLimit} {
		same(t, seen[e] > 10, true, "how often there is the error", e, seen[e])
	}
}

// P5.1: Size.
func TestSize(t *testing.T) {
	for i, g := range append(rightGrammars(), must(t, exampleText)) {
		n, e := grammar.Size(g)
		same(t, n, len(allOf(g)), "Size", i)
		same(t, e, api.OK, "Size", i)
	}
	n, _ := grammar.Size(must(t, exampleText))
	same(t, n, 12, "Size of the example")
}

// P5.1: Find.
func TestFind(t *testing.T) {
	g := must(t, exampleText)
	for i, name := range []string{"none", "text", "par", "head", "body", "doc"} {
		def, e := grammar.Find(g, name)
		same(t, def, i, "Find", name)
		same(t, e, api.OK, "Find", name)
	}
	for name, want := range map[string]api.Errno{"x": api.ErrAbsent, "p": api.ErrAbsent, "nonee": api.ErrAbsent, "non": api.ErrAbsent, "abcdefgh": api.ErrAbsent, "": api.ErrName, "None": api.ErrName, "none ": api.ErrName, "1": api.ErrName, "abcdefghi": api.ErrName, "a\n": api.ErrName, strings.Repeat("none", 100000): api.ErrName} {
		def, e := grammar.Find(g, name)
		same(t, def, 0, "Find", name)
		same(t, e, want, "Find", name)
	}
}

// P5.1: Guards.
func TestGuards(t *testing.T) {
	texts := func(l []api.Guard) string { return strings.Join(each(l, guardText), " ") }
	for s, want := range map[string]string{
		exampleText: "<> $ b p h doc", "a:~\n": "<>", "a:[*]a\n": "<> *", "a:[<>]a\n": "<>", "a:([b]a|([a]a|[b]b))\nb:([a]a,([c]a,[<>]b))\n": "<> b a c", "a:([(a|b)]a|([(b|a)]a|[!(a|b)]a))\n": "<> (a|b) (b|a) !(a|b)",
		"a:([@a]a|([@a=\"\"]a|([@b]a|([a]a|[@a]b))))\nb:([\"a\"]a|([^\"a\"]a|([<1]a|[<1/2]a)))\n": `<> @a @a="" @b a "a" ^"a" <1 <1/2`, "a:[a]b\nb:[<>]a\nc:([a]a&[a]b)\n": "<> a",
	} {
		l, e := grammar.Guards(must(t, s))
		same(t, texts(l), want, "Guards", s)
		same(t, e, api.OK, "Guards", s)
	}
	for seed := range uint64(300) {
		g := newMaker(seed, allSorts).grammar(6, 9)
		l, e := grammar.Guards(g)
		same(t, texts(l), texts(guardsBySeen(g)), "Guards", grammarText(g))
		same(t, e, api.OK, "Guards", grammarText(g))
	}
}

func each[T, U any](l []T, f func(T) U) []U {
	var made []U
	for _, x := range l {
		made = append(made, f(x))
	}
	return made
}

// errorsOf are the errors of all functions that are called with a grammar, and otherwise with what is wrong, if def is.
func errorsOf(g api.Grammar, def int, f []api.Tree) map[string]api.Errno {
	l := map[string]api.Errno{"Check": grammar.Check(g)}
	_, l["Size"] = grammar.Size(g)
	_, l["Find"] = grammar.Find(g, "")
	_, l["Guards"] = grammar.Guards(g)
	_, l["In"] = grammar.In(g, def, f)
	_, l["All"] = grammar.All(g, f)
	_, l["Null"] = grammar.Null(g)
	_, l["Uses"] = grammar.Uses(g, def)
	_, l["Reach"] = grammar.Reach(g, def)
	_, l["Loops"] = grammar.Loops(g, def)
	_, l["Stars"] = grammar.Stars(g, def)
	_, l["Labels"] = grammar.Labels(g, def)
	_, l["Open"] = grammar.Open(g, def)
	_, _, l["Trim"] = grammar.Trim(g, []int{0, def})
	_, l["Join"] = grammar.Join(g, api.Grammar{})
	_, l["Put"] = grammar.Put(g, def, endless())
	_, l["Rename"] = grammar.Rename(g, def, "")
	_, l["Simple"] = grammar.Simple(g)
	_, l["Turn"] = grammar.Turn(g)
	_, l["Print"] = grammar.Print(g)
	return l
}

// R1: each function returns the error of the grammar first; then that of the index, then that of the forest, then what is its own.
func TestOrderOfErrors(t *testing.T) {
	bad := append(row("a", 13), elem("A"))
	for i, x := range wrongGrammars() {
		for name, e := range errorsOf(x.g, 99, bad) {
			same(t, e, x.e, name, i)
		}
	}
	g := must(t, "n:.\na:(*[a]n%[b]n)\n")
	own := map[string]api.Errno{"Find": api.ErrName, "All": api.ErrName, "Join": api.ErrMany}
	for _, name := range []string{"In", "Uses", "Reach", "Loops", "Stars", "Labels", "Open", "Trim", "Put", "Rename"} {
		own[name] = api.ErrAbsent
	}
	for _, def := range []int{2, -1, 99, 1 << 62, -1 << 63} {
		for name, e := range errorsOf(g, def, bad) {
			same(t, e, own[name], name, def)
		}
	}
	own = map[string]api.Errno{"Find": api.ErrName, "In": api.ErrName, "All": api.ErrName, "Join": api.ErrMany, "Put": api.ErrMany, "Rename": api.ErrName}
	for name, e := range errorsOf(g, 1, bad) {
		same(t, e, own[name], name)
	}
	own["In"], own["All"] = api.ErrLimit, api.ErrLimit
	for name, e := range errorsOf(g, 1, row("a", 13)) {
		same(t, e, own[name], name)
	}
	for i, x := range wrongGrammars() {
		_, e := grammar.Join(g, x.g)
		same(t, e, x.e, "Join of a wrong one behind", i)
		_, e = grammar.Join(api.Grammar{Defs: []api.Def{{}}}, x.g)
		same(t, e, api.ErrName, "Join of two wrong ones", i)
	}
}
