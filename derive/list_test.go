package derive_test

import (
	"slices"
	"testing"

	"withy/api"
	"withy/derive"
	"withy/grammar"
)

// P6.3: the examples of the chapter, and lists of trees with kids.
func TestList(t *testing.T) {
	g := read(exampleText)
	for _, x := range [][3]string{
		{"", ". *[a]none ([a]none,[b]none) !list", "1100"},
		{"a", "~ *[a]none [b]none !*[a]none", "0100"},
		{"b", "~ ~ ~ !~", "0001"},
		{"a b", "~ ~ . !~", "0011"},
		{"a a", "~ *[a]none ~ !*[a]none", "0100"},
		{"a{7}", "~ ~ ~ !~", "0001"},
		{"7", "~ ~ ~ !~", "0001"},
	} {
		f := forest(x[0])
		same(t, list(g, f), x[1], x[0])
		is, e := derive.Profile(g, f)
		same(t, e, api.OK, x[0])
		same(t, bits(is), x[2], x[0])
	}
	g = read("n:.\nt:*[<>]t\nu:([a]t%[#]n)\n")
	same(t, list(g, forest("b{a b{c}} c")), "~ *[<>]t ~", "elements at all depths")
	same(t, list(g, forest("b{a b{7}} c")), "~ ~ ~", "a number among them")
	same(t, list(g, forest("1/2")), "~ ~ [a]t", "a number")
	same(t, list(g, forest("1/2 a{b}")), "~ ~ .", "and an element")
}

// P6.3, P6.5: lists are those of another reading of the chapter, with the limit at just those that it finds too large; profiles tell what grammar.All tells.
func TestLists(t *testing.T) {
	large := 0
	for seed := range uint64(600) {
		m := newMaker(seed, allOps)
		if seed%3 == 0 {
			m.ops = mixOps
		}
		g := m.grammar(4, 12)
		if seed%3 == 0 {
			g = m.mixed(20)
		}
		f := m.forest(9)
		is, e := derive.Profile(g, f)
		if most(g, f) > api.MaxDerived {
			same(t, list(g, f), failed(api.ErrLimit), grammarText(g), forestText(f))
			same(t, e, api.ErrLimit, grammarText(g), forestText(f))
			same(t, len(is), 0, grammarText(g), forestText(f))
			large++
			continue
		}
		same(t, list(g, f), texts(g, listOf(g, f)), grammarText(g), forestText(f))
		all, e2 := grammar.All(g, f)
		same(t, e2, api.OK, grammarText(g), forestText(f))
		same(t, e, api.OK, grammarText(g), forestText(f))
		same(t, bits(is), bits(all), grammarText(g), forestText(f))
		for def := range g.Defs {
			if most(g, f, ref(def)) <= api.MaxDerived {
				same(t, has(t, g, ref(def), f), is[def], grammarText(g), def, forestText(f))
			}
		}
	}
	same(t, large > 5, true, "too large ones", large)
}

// P6.3: any number of trees can stand beside each other, with mixes, too.
func TestLong(t *testing.T) {
	g := read("n:.\nm:(*[a]n%*[b]n)\nt:*[<>]t\npairs:*([a]n%[b]n)\n")
	f := slices.Repeat(forest("a b b a"), api.MaxTrees/4)
	same(t, list(g, f), "~ (*[a]n%*[b]n) *[<>]t *([a]n%[b]n)", "four hundred trees")
	_, e := grammar.All(g, f)
	same(t, e, api.ErrLimit, "which All does not take")
	is, e := derive.Profile(g, f[:len(f)-1])
	same(t, e, api.OK, "Profile")
	same(t, bits(is), "0110", "Profile")
	same(t, has(t, g, ref(3), f), true, "Has")
	deepest := chain(api.MaxDeep)
	is, e = derive.Profile(g, deepest)
	same(t, e, api.OK, "a deep one")
	same(t, bits(is), "0010", "a deep one")
	_, e = derive.Profile(g, append(f, f[0]))
	same(t, e, api.ErrMany, "too many trees")
}
