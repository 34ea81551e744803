package derive_test

import (
	"testing"

	"withy/api"
	"withy/derive"
	"withy/grammar"
)

// P6.2: the examples of the chapter, and each Op by trees that it has, and that it has not.
func TestLeft(t *testing.T) {
	g := read(exampleText)
	for _, x := range []struct {
		r, f, left string
		has        bool
	}{
		{"list", "a", "*[a]none", true},
		{"pair", "a", "[b]none", false},
		{"pair", "b", "~", false},
		{"list", "a{a}", "~", false},
		{"!list", "b", "!~", true},
		{"([a]none%[b]none)", "b", "[a]none", false},
		{"pair", "a b", ".", true},
		{"not", "a a", "!*[a]none", false},
		// of no tree: the normal form
		{"not", "", "not", false},
		{"((list,.)|list)", "", "list", true},
		{"~", "", "~", false},
		{".", "", ".", true},
		// each Op
		{"~", "a", "~", false},
		{".", "a", "~", false},
		{"[a]none", "a", ".", true},
		{"[a]none", "b", "~", false},
		{"[a]none", "a a", "~", false},
		{"(pair,list)", "a", "([b]none,list)", false},
		{"(pair,list)", "a b a", "*[a]none", true},
		{"(list,pair)", "a", "([b]none|(*[a]none,pair))", false},
		{"(list,(list,pair))", "b", "~", false},
		{"(pair|list)", "a", "([b]none|*[a]none)", true},
		{"(pair|list)", "b", "~", false},
		{"*pair", "a", "([b]none,*pair)", false},
		{"*pair", "a b a b", "*pair", true},
		{"**[a]none", "a", "*[a]none", true},
		{"(pair&list)", "a", "([b]none&*[a]none)", false},
		{"(pair&list)", "a a", "~", false},
		{"!pair", "a", "![b]none", true},
		{"!pair", "a b", "!.", false},
		{"!pair", "a b b", "!~", true},
		{"!!pair", "a", "[b]none", false},
		{"(pair%list)", "a", "(([b]none%list)|(*[a]none%pair))", false},
		{"(pair%list)", "a a b a", "*[a]none", true},
		{"([a]none%([a]none%[b]none))", "a", "([a]none%[b]none)", false},
		{"(pair%[a]none)", "a", "(([a]none%[b]none)|pair)", false},
		{"not", "b", "!~", true},
		// heads and kids
		{"[<>]list", `c(k=""){a a}`, ".", true},
		{"[<>]list", "c{b}", "~", false},
		{"[<>]not", "c{a b{7}}", ".", true},
		{"[#]none", "7", ".", true},
		{"[#]pair", "7", "~", false},
		{"[$]list", `"x"`, ".", true},
		{"[<3]none", "3", "~", false},
		{"*[<3]none", "2 1/2 -7", "*[<3]none", true},
	} {
		r, f := in(g, x.r), forest(x.f)
		same(t, along(g, r, f), x.left, "Along", x.r, x.f)
		same(t, has(t, g, r, f), x.has, "Has", x.r, x.f)
		if len(f) == 1 {
			left, e := derive.Derive(g, r, f[0])
			same(t, told(g, left, e), x.left, "Derive", x.r, x.f)
		}
	}
}

// P6.2, P6.5: derivatives are those of another reading of the chapter, with the limit at just those that it finds too large; what has the empty forest is what grammar.In has.
func TestAlong(t *testing.T) {
	large := 0
	for seed := range uint64(1500) {
		m := newMaker(seed, allOps)
		if seed%3 == 0 {
			m.ops = mixOps
		}
		g := m.grammar(4, 8)
		r := m.expression(1+m.IntN(20), len(g.Defs), len(g.Defs))
		if seed%3 == 0 {
			r = re(api.RMix, re(api.RStar, r), re(api.RStar, m.expression(20, len(g.Defs), len(g.Defs))))
		}
		f := m.forest(7)
		what := []any{grammarText(g), text(g, r), forestText(f)}
		left, e := derive.Along(g, r, f)
		is, e2 := derive.Has(g, r, f)
		if most(g, f, r) > api.MaxDerived {
			same(t, told(g, left, e), failed(api.ErrLimit), what...)
			same(t, e2, api.ErrLimit, what...)
			same(t, is, false, what...)
			large++
			continue
		}
		same(t, told(g, left, e), text(g, leftOf(g, r, f)), what...)
		same(t, e2, api.OK, what...)
		same(t, is, member(t, g, r, f), what...)
	}
	same(t, large > 5, true, "too large ones", large)
}

func grammarText(g api.Grammar) string {
	s, _ := grammar.Print(g)
	return s
}

// wide is an expression whose derivative by an element without kids has 135 expressions, and those of rest. Its atoms are of these guards, and of the definitions 0 and 1.
func wide(rest api.Re) api.Re {
	guards := []api.GuardOp{api.GAll, api.GElem, api.GNumber, api.GText}
	var stars []api.Re
	for def := range 2 {
		for i, op := range guards {
			g := api.Guard{Op: op}
			if i > 1 {
				g = api.Guard{Op: api.GNot, Subs: []api.Guard{g}}
			}
			stars = append(stars, re(api.RStar, api.Re{Op: api.RTree, Guard: g, Def: def}))
		}
	}
	list := re(api.RStar, label("a", 0))
	for _, s := range stars {
		list = re(api.RSeq, s, list)
	}
	return re(api.RAlt, list, re(api.RSeq, label("a", 1), rest))
}

// fill is a list of so many expressions, of elements b.
func fill(count int) api.Re {
	if count%2 == 0 {
		return re(api.RNot, fill(count-1))
	}
	r := label("b", 0)
	for range count / 2 {
		r = re(api.RSeq, label("b", 0), r)
	}
	return r
}

// P6.2: a derivative can have MaxDerived expressions, and not one more, wherever it comes on the way.
func TestLimit(t *testing.T) {
	g := named(re(api.REps), re(api.REps))
	enough, over := wide(fill(15)), wide(fill(16))
	same(t, size(leftOf(g, enough, forest("a"))), api.MaxDerived, "as large as can be")
	same(t, along(g, enough, forest("a")), text(g, leftOf(g, enough, forest("a"))), "150")
	same(t, along(g, over, forest("a")), failed(api.ErrLimit), "151")
	same(t, has(t, g, enough, forest("a")), true, "150")
	for f, want := range map[string]api.Errno{"": api.OK, "7": api.OK, "c": api.OK, "a": api.ErrLimit, "7 a": api.OK, "a 7": api.ErrLimit, `a "x"`: api.ErrLimit, "a a": api.ErrLimit} {
		_, e := derive.Has(g, over, forest(f))
		same(t, e, want, "Has", f)
		_, e = derive.Along(g, over, forest(f))
		same(t, e, want, "Along", f)
		if len(forest(f)) == 1 {
			_, e = derive.Derive(g, over, forest(f)[0])
			same(t, e, want, "Derive", f)
		}
	}
	left := leftOf(g, over, forest("a 7"))
	same(t, size(left) < 100, true, "a smaller one comes behind one that is too large")
}

// P6.2, P6.3: what comes on the way to the lists of kids counts, of all definitions; what comes on the way to the list of the trees beside each other counts for List and Profile alone.
func TestLimitOfKids(t *testing.T) {
	g := named(re(api.REps), re(api.REps), wide(fill(16)))
	same(t, grammar.Check(g), api.OK, "the grammar")
	for f, want := range map[string]struct{ of, list api.Errno }{
		"":                 {api.OK, api.OK},
		"a":                {api.OK, api.ErrLimit},
		"a 7":              {api.OK, api.ErrLimit},
		"7 a":              {api.OK, api.OK},
		"c{7}":             {api.OK, api.OK},
		"c{a}":             {api.ErrLimit, api.ErrLimit},
		"c{a 7}":           {api.ErrLimit, api.ErrLimit},
		"c{7 a}":           {api.OK, api.OK},
		"c c{c{a} 7} 7":    {api.ErrLimit, api.ErrLimit},
		"c c{c{c{a 7}} 7}": {api.ErrLimit, api.ErrLimit},
		"c c{c{7} 7} 7":    {api.OK, api.OK},
	} {
		for _, r := range []api.Re{re(api.RNone), ref(0), re(api.RNot, re(api.RNone))} {
			_, e := derive.Has(g, r, forest(f))
			same(t, e, want.of, "Has", f)
			_, e = derive.Along(g, r, forest(f))
			same(t, e, want.of, "Along", f)
			if len(forest(f)) == 1 {
				_, e = derive.Derive(g, r, forest(f)[0])
				same(t, e, want.of, "Derive", f)
			}
		}
		same(t, most(g, forest(f)) > api.MaxDerived, want.list != api.OK, "most", f)
		_, e := derive.List(g, forest(f))
		same(t, e, want.list, "List", f)
		_, e = derive.Profile(g, forest(f))
		same(t, e, want.list, "Profile", f)
	}
	g.Defs[2].Body = wide(fill(15))
	same(t, list(g, forest("a")), texts(g, listOf(g, forest("a"))), "a list of 150")
}

// doubling is a grammar in which the derivative of each definition by an element a without kids has that of the one before twice. The last one has half a million expressions.
func doubling() api.Grammar {
	bodies := []api.Re{re(api.REps), re(api.RAlt, label("a", 0), re(api.RSeq, label("a", 0), label("b", 0)))}
	for at := 2; at < api.MaxDefs; at++ {
		one := ref(at - 1)
		bodies = append(bodies, re(api.RAlt, one, re(api.RSeq, one, label("c", 0))))
	}
	return named(bodies...)
}

// P6.2: what is too large on the way to a derivative, but is no derivative of the expression, makes no difference, and takes no time to speak of.
func TestDropped(t *testing.T) {
	g := doubling()
	same(t, grammar.Check(g), api.OK, "the grammar")
	last := ref(len(g.Defs) - 1)
	same(t, along(g, last, forest("a")), failed(api.ErrLimit), "too large")
	same(t, along(g, last, forest("b")), "~", "by a tree that it has not")
	same(t, along(g, re(api.RAnd, last, label("b", 0)), forest("a")), "~", "with nothing")
	same(t, along(g, re(api.RAlt, last, re(api.RNot, label("b", 0))), forest("a")), "!~", "or all")
	same(t, along(g, re(api.RSeq, re(api.RAnd, last, label("b", 0)), ref(1)), forest("a")), "~", "behind nothing")
	never := re(api.RStar, re(api.RAlt, label("a", 0), re(api.RAnd, last, label("b", 0))))
	same(t, along(g, never, forest("a a a a a a")), text(g, rewritten(never)), "again and again")
	square := re(api.RMix, last, last)
	same(t, along(g, re(api.RAnd, square, label("b", 0)), forest("a")), "~", "mixed with itself")
	same(t, along(g, re(api.RAnd, square, re(api.RSeq, label("a", 0), re(api.RNone))), forest("a c")), "~", "of two trees")
}

// P6.6: a tree is ahead of a forest just if what is left behind the tree has the forest, and so with pieces of any length.
func TestBehind(t *testing.T) {
	for seed := range uint64(500) {
		m := newMaker(seed, allOps)
		g := m.grammar(3, 6)
		r := m.expression(1+m.IntN(10), len(g.Defs), len(g.Defs))
		f := m.forest(8)
		if most(g, f, r) > api.MaxRes {
			continue
		}
		for cut := range len(f) + 1 {
			first, e := derive.Along(g, r, f[:cut])
			same(t, e, api.OK, text(g, r), forestText(f))
			same(t, along(g, first, f[cut:]), along(g, r, f), text(g, r), forestText(f[:cut]), forestText(f[cut:]))
			same(t, has(t, g, first, f[cut:]), has(t, g, r, f), text(g, r), forestText(f[:cut]), forestText(f[cut:]))
		}
		if len(f) > 0 {
			left, e := derive.Derive(g, r, f[0])
			same(t, told(g, left, e), along(g, r, f[:1]), text(g, r), forestText(f))
			same(t, has(t, g, left, f[1:]), member(t, g, r, f), text(g, r), forestText(f))
		}
	}
}

// P6.10: what is left of an expression is what is left of its parts, put together.
func TestParts(t *testing.T) {
	for seed := range uint64(500) {
		m := newMaker(seed, allOps)
		g := m.grammar(3, 6)
		var parts, normals, lefts []api.Re
		tree := append(m.forest(3), forest("a")...)[:1]
		for range 2 {
			r := m.expression(1+m.IntN(7), len(g.Defs), len(g.Defs))
			n, e := derive.Normal(g, r)
			same(t, e, api.OK, text(g, r))
			left, e := derive.Derive(g, r, tree[0])
			same(t, e, api.OK, text(g, r), forestText(tree))
			parts, normals, lefts = append(parts, r), append(normals, n), append(lefts, left)
		}
		sequence := re(api.RSeq, lefts[0], normals[1])
		if has(t, g, parts[0], nil) {
			sequence = re(api.RAlt, sequence, lefts[1])
		}
		for _, x := range [][2]api.Re{
			{re(api.RSeq, parts...), sequence},
			{re(api.RAlt, parts...), re(api.RAlt, lefts...)},
			{re(api.RAnd, parts...), re(api.RAnd, lefts...)},
			{re(api.RNot, parts[0]), re(api.RNot, lefts[0])},
		} {
			if size(x[1]) <= api.MaxRes {
				sameForests(t, m, g, x[0], x[1], tree)
			}
		}
		// of a star, and a mix, the parts as they were go on, too
		star := re(api.RStar, parts[0])
		sameForests(t, m, g, star, re(api.RSeq, lefts[0], star), tree)
		mixed := re(api.RAlt, re(api.RMix, lefts[0], normals[1]), re(api.RMix, normals[0], lefts[1]))
		if size(mixed) <= api.MaxRes {
			sameForests(t, m, g, re(api.RMix, parts...), mixed, tree)
		}
	}
}

// sameForests asks for what is left of an expression behind a tree to have the same forests as another one.
func sameForests(t *testing.T, m maker, g api.Grammar, r, left api.Re, tree []api.Tree) {
	t.Helper()
	for range 3 {
		f := m.forest(4)
		whole := append(tree[:1:1], f...)
		if max(most(g, whole, r), most(g, f, left)) <= api.MaxDerived {
			same(t, has(t, g, r, whole), has(t, g, left, f), text(g, r), text(g, left), forestText(whole))
		}
	}
}

// P6.12: what an expression names is as good as the Body itself.
func TestOpened(t *testing.T) {
	for seed := range uint64(400) {
		m := newMaker(seed, allOps)
		g := m.grammar(4, 6)
		f := m.forest(6)
		for def, d := range g.Defs {
			if max(most(g, f, d.Body), most(g, f, ref(def))) > api.MaxDerived {
				continue
			}
			same(t, has(t, g, ref(def), f), has(t, g, d.Body, f), text(g, d.Body), forestText(f))
			if len(f) > 0 {
				same(t, along(g, ref(def), f), along(g, d.Body, f), text(g, d.Body), forestText(f))
			}
			opened, e := grammar.Open(g, def)
			if e == api.OK && most(g, f, opened) <= api.MaxDerived {
				same(t, has(t, g, ref(def), f), has(t, g, opened, f), text(g, opened), forestText(f))
			}
		}
	}
}
