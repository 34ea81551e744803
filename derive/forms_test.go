package derive_test

import (
	"slices"
	"testing"

	"withy/api"
	"withy/derive"
	"withy/grammar"
)

// P6.1: the examples of the chapter, and of each Op what its normal form leaves out.
func TestNormal(t *testing.T) {
	g := read(exampleText)
	for _, x := range [][2]string{
		{"((.,[a]none),.)", "[a]none"},
		{"([b]none|([a]none|[b]none))", "([a]none|[b]none)"},
		{"(!~&[a]none)", "[a]none"},
		{"(~%list)", "~"},
		{"**list", "*list"},
		{"*!~", "!~"},
		{"!!list", "list"},
		{"([a]none%([b]none%[a]none))", "([a]none%([a]none%[b]none))"},
		{"(([a]none,.),(list,pair))", "([a]none,(list,pair))"},
		{"~", "~"},
		{".", "."},
		{"not", "not"},
		{"[a]list", "[a]list"},
		// parts that are all, or nothing
		{"(list,(pair,~))", "~"},
		{"((~,list),pair)", "~"},
		{"(list|(pair|!~))", "!~"},
		{"((!~|list)|pair)", "!~"},
		{"(list&(pair&~))", "~"},
		{"(list%(pair%~))", "~"},
		{"(.,(.,.))", "."},
		{"(~|(~|~))", "~"},
		{"(!~&(!~&!~))", "!~"},
		{"(.%(.%.))", "."},
		{"(.|.)", "."},
		{"(.&.)", "."},
		{"(list,.)", "list"},
		{"(list|~)", "list"},
		{"(list&!~)", "list"},
		{"(list%.)", "list"},
		// what is no such part stays
		{"(list,!~)", "(list,!~)"},
		{"(list&.)", "(.&list)"},
		{"(list|.)", "(.|list)"},
		{"(list%!~)", "(!~%list)"},
		// order, and how often
		{"(pair,(list,pair))", "(pair,(list,pair))"},
		{"(pair%(list%pair))", "(list%(pair%pair))"},
		{"(pair|(list|pair))", "(list|pair)"},
		{"(pair&(list&pair))", "(list&pair)"},
		{"(list|list)", "list"},
		{"(list&list)", "list"},
		{"((pair|list)|(none|not))", "(none|(list|(pair|not)))"},
		{"((pair,list),(none,not))", "(pair,(list,(none,not)))"},
		// parts of another Op are not taken apart
		{"((pair&list)|(pair|list))", "((list&pair)|(list|pair))"},
		{"((pair,list)%(list,pair))", "((list,pair)%(pair,list))"},
		// stars and nots
		{"*~", "."},
		{"*.", "."},
		{"***list", "*list"},
		{"*(.|.)", "."},
		{"!~", "!~"},
		{"!!~", "~"},
		{"!!!list", "!list"},
		{"!(list&~)", "!~"},
		{"*(list|!(pair&~))", "!~"},
		{"!*!!*list", "!*list"},
		{"*!.", "*!."},
	} {
		same(t, normal(g, in(g, x[0])), x[1], x[0])
	}
}

// P6.1: the order of Ops, of guards by each of their fields, of definitions, and of Subs.
func TestCompare(t *testing.T) {
	g := read(exampleText)
	ascending := []string{
		"~", ".",
		"[*]none", "[<>]none", "[<>]list", "[#]none", "[$]none",
		"[a]none", "[a]not", "[aa]none", "[b]none",
		"[@k]none", "[@k=\"\"]none", "[@k=\"a\"]none", "[@k=\"aa\"]none", "[@l=\"\"]none",
		"[<-1]none", "[<1]none", "[<1/2]none", "[<1/3]none", "[<2]none", "[<2/3]none", // by numerators first
		"[%]none", `["A"]none`, `["a"]none`, `[^""]none`, `[^"a"]none`,
		"[!a]none", "[!b]none", "[(a&b)]none", "[(a&c)]none", "[(b&a)]none", "[(a|b)]none",
		"(~,.)", "(~,(~,~))", "(.,~)", "((~,.),~)", "((.,~),~)",
		"(~|.)", "(.|~)",
		"*~", "*.", "**~",
		"(~&.)", "(list&pair)",
		"!~", "!*~", "!!~",
		"(~%.)", "(pair%list)",
		"none", "list", "pair", "not",
	}
	for i, r := range ascending {
		for k, q := range ascending {
			c, e := derive.Compare(g, in(g, r), in(g, q))
			same(t, e, api.OK, r, q)
			same(t, c, sign(i-k), r, q)
		}
	}
}

func sign(i int) int { return max(-1, min(i, 1)) }

// P6.1: which expressions have the empty forest.
func TestNull(t *testing.T) {
	g := read(exampleText)
	for s, want := range map[string]bool{
		"~": false, ".": true, "[a]none": false, "[*]none": false,
		"list": true, "pair": false, "not": false, "none": true,
		"(list,none)": true, "(list,pair)": false, "(pair,list)": false,
		"(list|pair)": true, "(pair|list)": true, "(pair|pair)": false,
		"*pair": true, "*~": true,
		"(list&none)": true, "(list&pair)": false, "(pair&list)": false,
		"!list": false, "!pair": true, "!!list": true,
		"(list%none)": true, "(list%pair)": false, "(pair%list)": false,
	} {
		is, e := derive.Null(g, in(g, s))
		same(t, e, api.OK, s)
		same(t, is, want, s)
	}
}

// wrongRes are expressions in a grammar of four definitions, with their errors.
func wrongRes() map[string]struct {
	r api.Re
	e api.Errno
} {
	type wrong = struct {
		r api.Re
		e api.Errno
	}
	list := ref(1)
	many := re(api.RStar, ref(9))
	for range api.MaxRes - 1 {
		many = re(api.RStar, many)
	}
	field := func(change func(r *api.Re)) api.Re {
		r := re(api.REps)
		change(&r)
		return r
	}
	guarded := func(g api.Guard) api.Re { return api.Re{Op: api.RTree, Guard: g} }
	loop := api.Guard{Op: api.GNot, Subs: make([]api.Guard, 1)}
	loop.Subs[0] = loop
	return map[string]wrong{
		"too many":              {many, api.ErrMany},
		"just too many":         {re(api.RStar, deep(api.MaxRes)), api.ErrMany},
		"endless":               {endless(), api.ErrMany},
		"very wide":             {api.Re{Op: api.RSeq, Subs: make([]api.Re, 100000)}, api.ErrMany},
		"below the kinds":       {re(-1), api.ErrForm},
		"far below":             {re(-1 << 63), api.ErrForm},
		"above the kinds":       {re(api.RRef + 1), api.ErrForm},
		"a star of none":        {re(api.RStar), api.ErrForm},
		"a star of two":         {re(api.RStar, list, list), api.ErrForm},
		"a list of one":         {re(api.RSeq, list), api.ErrForm},
		"a choice of three":     {re(api.RAlt, list, list, list), api.ErrForm},
		"a name of one":         {api.Re{Op: api.RRef, Subs: []api.Re{list}}, api.ErrForm},
		"a tree of one":         {api.Re{Op: api.RTree, Subs: []api.Re{list}}, api.ErrForm},
		"a definition unused":   {field(func(r *api.Re) { r.Def = 1 }), api.ErrForm},
		"a guard unused":        {field(func(r *api.Re) { r.Guard.Op = api.GElem }), api.ErrForm},
		"a guard named":         {api.Re{Op: api.RRef, Guard: api.Guard{Name: "a"}}, api.ErrForm},
		"no definition":         {ref(4), api.ErrAbsent},
		"below definitions":     {ref(-1), api.ErrAbsent},
		"kids of no definition": {label("a", 4), api.ErrAbsent},
		"absent, then a guard":  {label("A", 4), api.ErrAbsent},
		"a label":               {label("A", 0), api.ErrName},
		"a value":               {guarded(api.Guard{Op: api.GIs, Value: "\x00"}), api.ErrRange},
		"a number":              {guarded(api.Guard{Op: api.GBelow, At: api.Num{N: 1, D: 101}}), api.ErrRange},
		"no lowest terms":       {guarded(api.Guard{Op: api.GBelow, At: api.Num{N: 2, D: 2}}), api.ErrForm},
		"a guard of no kind":    {guarded(api.Guard{Op: 99}), api.ErrForm},
		"an endless guard":      {guarded(loop), api.ErrMany},
		"the first one":         {re(api.RSeq, ref(9), re(11)), api.ErrAbsent},
		"the outer one":         {re(api.RSeq, ref(9)), api.ErrForm},
		"the second one":        {re(api.RSeq, list, re(api.RSeq, label("A", 0), ref(9))), api.ErrName},
		"many before the rest":  {re(11, make([]api.Re, api.MaxRes)...), api.ErrMany},
		"no more than allowed":  {re(11, make([]api.Re, api.MaxRes-1)...), api.ErrForm},
	}
}

// deep is an expression of so many expressions.
func deep(count int) api.Re {
	r := ref(1)
	for range count - 1 {
		r = re(api.RNot, r)
	}
	return r
}

// P6.1 and P0.2: the errors of expressions, in all functions that take one, and in which order they come with others.
func TestErrors(t *testing.T) {
	g := read(exampleText)
	bad := api.Tree{Head: api.Head{Label: "A"}}
	for name, x := range wrongRes() {
		same(t, derive.Check(g, x.r), x.e, "Check", name)
		same(t, normal(g, x.r), failed(x.e), "Normal", name)
		same(t, along(g, x.r, nil), failed(x.e), "Along", name)
		same(t, along(g, x.r, []api.Tree{bad}), failed(x.e), "Along with a wrong forest", name)
		_, e := derive.Null(g, x.r)
		same(t, e, x.e, "Null", name)
		_, e = derive.Has(g, x.r, []api.Tree{bad})
		same(t, e, x.e, "Has", name)
		_, e = derive.Derive(g, x.r, bad)
		same(t, e, x.e, "Derive", name)
		_, e = derive.Compare(g, x.r, ref(7))
		same(t, e, x.e, "Compare, the first one", name)
		_, e = derive.Compare(g, ref(0), x.r)
		same(t, e, x.e, "Compare, the second one", name)
		same(t, derive.Check(api.Grammar{}, x.r), api.ErrMany, "the grammar's comes first", name)
	}
	for _, r := range []api.Re{ref(3), deep(api.MaxRes), label("z", 3), re(api.RMix, ref(0), ref(3))} {
		same(t, derive.Check(g, r), api.OK, "Check", r)
		same(t, along(g, r, []api.Tree{bad}), failed(api.ErrName), "a forest", r)
	}
	_, e := derive.Derive(g, ref(0), bad)
	same(t, e, api.ErrName, "a tree")
	_, e = derive.Derive(g, ref(0), chain(api.MaxDeep + 1)[0])
	same(t, e, api.ErrLimit, "a tree that is too deep")
	_, e = derive.Derive(g, ref(0), api.Tree{Head: api.Head{Kind: api.Text}, Kids: forest("a")})
	same(t, e, api.ErrForm, "a text with kids")
}

// chain is so many elements in one another.
func chain(count int) []api.Tree {
	var f []api.Tree
	for range count {
		f = []api.Tree{{Head: api.Head{Label: "a"}, Kids: f}}
	}
	return f
}

// wrongGrammars are grammars with their errors.
func wrongGrammars() map[string]struct {
	g api.Grammar
	e api.Errno
} {
	type wrong = struct {
		g api.Grammar
		e api.Errno
	}
	var labels []api.Re
	for _, name := range []string{"a", "b", "c", "d", "e"} {
		labels = append(labels, label(name, 0))
	}
	return map[string]wrong{
		"none":             {api.Grammar{}, api.ErrMany},
		"endless":          {named(endless()), api.ErrMany},
		"a later one":      {named(ref(0)), api.ErrOrder},
		"absent":           {named(label("a", 1)), api.ErrAbsent},
		"a wrong name":     {api.Grammar{Defs: []api.Def{{Name: "A"}}}, api.ErrName},
		"a name twice":     {api.Grammar{Defs: []api.Def{{Name: "a"}, {Name: "a"}}}, api.ErrTwice},
		"too many labels":  {named(labels...), api.ErrLimit},
		"of no kind":       {named(re(77)), api.ErrForm},
		"too many of them": {named(make([]api.Re, api.MaxDefs+1)...), api.ErrMany},
	}
}

// P6.1 to P6.4: the error of the grammar comes first, and all functions return it.
func TestGrammars(t *testing.T) {
	bad := []api.Tree{{Head: api.Head{Label: "A"}}}
	for name, x := range wrongGrammars() {
		same(t, derive.Check(x.g, re(99)), x.e, "Check", name)
		same(t, normal(x.g, re(99)), failed(x.e), "Normal", name)
		same(t, along(x.g, re(99), bad), failed(x.e), "Along", name)
		same(t, list(x.g, bad), failed(x.e), "List", name)
		_, e := derive.Compare(x.g, re(99), re(99))
		same(t, e, x.e, "Compare", name)
		_, e = derive.Null(x.g, re(99))
		same(t, e, x.e, "Null", name)
		_, e = derive.Derive(x.g, re(99), bad[0])
		same(t, e, x.e, "Derive", name)
		_, e = derive.Has(x.g, re(99), bad)
		same(t, e, x.e, "Has", name)
		_, e = derive.Profile(x.g, bad)
		same(t, e, x.e, "Profile", name)
		_, e = derive.Build(x.g)
		same(t, e, x.e, "Build", name)
	}
	g := read(exampleText)
	same(t, list(g, bad), failed(api.ErrName), "List of a wrong forest")
	_, e := derive.Profile(g, bad)
	same(t, e, api.ErrName, "Profile of a wrong forest")
	_, e = derive.Profile(g, chain(api.MaxDeep+1))
	same(t, e, api.ErrLimit, "Profile of a forest that is too deep")
}

// P6.1: expressions can have guards that no grammar could have together.
func TestManyGuards(t *testing.T) {
	g := read(exampleText)
	r := re(api.REps)
	for _, name := range []string{"f", "e", "d", "c", "b", "a", "aa", "ab", "ac", "ad", "ae", "af", "ag"} {
		r = re(api.RAlt, label(name, 0), r)
	}
	same(t, grammar.Check(named(re(api.REps), r)), api.ErrMany, "as a grammar")
	same(t, normal(g, r), "(.|([a]none|([aa]none|([ab]none|([ac]none|([ad]none|([ae]none|([af]none|([ag]none|([b]none|([c]none|([d]none|([e]none|[f]none)))))))))))))", "Normal")
	same(t, along(g, r, forest("f")), ".", "Along f")
	same(t, along(g, r, forest("g")), "~", "Along g")
}

// P6.1, P6.7: a normal form is what rewriting by single laws leads to, has the same forests, no more expressions, and is its own normal form.
func TestNormals(t *testing.T) {
	for seed := range uint64(600) {
		m := newMaker(seed, allOps)
		g := m.grammar(3, 6)
		r := m.expression(1+m.IntN(30), len(g.Defs), len(g.Defs))
		n, e := derive.Normal(g, r)
		same(t, e, api.OK, text(g, r))
		same(t, text(g, n), text(g, rewritten(r)), text(g, r))
		same(t, normal(g, n), text(g, n), "again", text(g, r))
		same(t, size(n) <= size(r), true, "no more expressions", text(g, r))
		for range 5 {
			f := m.forest(5)
			if most(g, f, r) > api.MaxDerived {
				continue
			}
			same(t, has(t, g, n, f), has(t, g, r, f), text(g, r), forestText(f))
			same(t, has(t, g, n, f), member(t, g, r, f), text(g, r), forestText(f))
		}
		is, e := derive.Null(g, r)
		same(t, e, api.OK, text(g, r))
		same(t, is, isNull(g, r), "Null", text(g, r))
	}
}

func has(t *testing.T, g api.Grammar, r api.Re, f []api.Tree) bool {
	t.Helper()
	is, e := derive.Has(g, r, f)
	same(t, e, api.OK, "Has", text(g, r), forestText(f))
	return is
}

// member is whether grammar.In finds that a forest is of the definition whose Body an expression is.
func member(t *testing.T, g api.Grammar, r api.Re, f []api.Tree) bool {
	t.Helper()
	g.Defs = append(slices.Clone(g.Defs), api.Def{Name: "x", Body: r})
	is, e := grammar.In(g, len(g.Defs)-1, f)
	same(t, e, api.OK, "In", text(g, r), forestText(f))
	return is
}

// P6.8: what is chosen, what must be together, and what is mixed, can be in any order; lists of parts can be put into any brackets.
func TestLaws(t *testing.T) {
	for seed := range uint64(300) {
		m := newMaker(seed, allOps)
		g := m.grammar(3, 6)
		for _, op := range []api.ReOp{api.RSeq, api.RAlt, api.RAnd, api.RMix} {
			var parts []api.Re
			for range 2 + m.IntN(4) {
				parts = append(parts, m.expression(1+m.IntN(7), len(g.Defs), len(g.Defs)))
			}
			want := normal(g, m.bracketed(op, parts))
			for range 3 {
				if op != api.RSeq {
					m.Shuffle(len(parts), func(i, k int) { parts[i], parts[k] = parts[k], parts[i] })
				}
				r := m.bracketed(op, parts)
				same(t, normal(g, r), want, text(g, r))
			}
			if op == api.RAlt || op == api.RAnd {
				r := m.bracketed(op, append(parts, parts[0]))
				same(t, normal(g, r), want, "one of them twice", text(g, r))
			}
		}
	}
	g := read(exampleText)
	same(t, normal(g, in(g, "(pair%pair)")), "(pair%pair)", "what is mixed counts")
	same(t, normal(g, in(g, "(pair,list)")) == normal(g, in(g, "(list,pair)")), false, "the order of lists counts")
}

// bracketed is the expression of parts in any brackets.
func (m maker) bracketed(op api.ReOp, parts []api.Re) api.Re {
	if len(parts) == 1 {
		return parts[0]
	}
	cut := 1 + m.IntN(len(parts)-1)
	return re(op, m.bracketed(op, parts[:cut]), m.bracketed(op, parts[cut:]))
}

// P6.9: expressions are in one order, and the same just if they are equal.
func TestOrder(t *testing.T) {
	m := newMaker(9, allOps)
	g := read(exampleText)
	var l []api.Re
	for range 60 {
		l = append(l, m.expression(1+m.IntN(6), 4, 4))
	}
	for _, r := range l {
		for _, q := range l {
			c, e := derive.Compare(g, r, q)
			same(t, e, api.OK, r, q)
			same(t, c, sign(compareRes(r, q)), text(g, r), text(g, q))
			same(t, c == 0, text(g, r) == text(g, q), "equal", text(g, r), text(g, q))
			back, _ := derive.Compare(g, q, r)
			same(t, back, -c, "the other way", text(g, r), text(g, q))
		}
	}
	compare := func(r, q api.Re) int {
		c, _ := derive.Compare(g, r, q)
		return c
	}
	slices.SortFunc(l, compare)
	for i := range l {
		for k := range i {
			same(t, compare(l[k], l[i]) <= 0, true, "in one order", text(g, l[k]), text(g, l[i]))
		}
	}
}
