package grammar_test

import (
	"fmt"
	"slices"
	"strings"
	"testing"

	"withy/api"
	"withy/grammar"
	"withy/tree"
)

// P5.4: Open.
func TestOpen(t *testing.T) {
	sized := func(count int) string { return strings.Repeat("!", count-1) + "." }
	twice := "a:.\nb:(a,a)\nc:(b,b)\nd:(c,c)\ne:(d,d)\nf:(e,e)\ng:(f,f)\n"
	for _, x := range []struct {
		text string
		def  int
		want string
	}{
		{exampleText, 0, "."}, {exampleText, 1, "*([$]none|[b]text)"}, {exampleText, 4, "*([p]text|[h]text)"}, {exampleText, 5, "[doc]body"},
		{"a:.\nb:a\nc:b\nd:(c%!b)\n", 3, "(.%!.)"}, {"a:.\nb:a\nc:b\nd:(c%!b)\n", 2, "."}, {"a:*[x]b\nb:(a&a)\n", 1, "(*[x]b&*[x]b)"}, {"a:[x]b\nb:(a|~)\n", 0, "[x]b"},
		{twice, 2, "((.,.),(.,.))"}, {twice, 4, "((((.,.),(.,.)),((.,.),(.,.))),(((.,.),(.,.)),((.,.),(.,.))))"}, {twice, 5, failed(api.ErrLimit)}, {twice, 6, failed(api.ErrLimit)},
		{"a:" + sized(29) + "\nb:(a,!a)\n", 1, "(" + sized(29) + "," + sized(30) + ")"}, {"a:" + sized(29) + "\nb:(!a,!a)\n", 1, failed(api.ErrLimit)}, {"a:" + sized(29) + "\nb:(!a,!a)\n", 0, sized(29)},
		{"a:" + sized(20) + "\nb:" + sized(29) + "\nc:(a,!!b)\n", 2, "(" + sized(20) + "," + sized(31) + ")"}, {"a:" + sized(60) + "\n", 0, sized(60)}, {"a:" + sized(58) + "\nb:a\n", 1, sized(58)},
	} {
		g := must(t, x.text)
		r, e := grammar.Open(g, x.def)
		got := reText(r, namesOf(g))
		if e != api.OK {
			same(t, plain(r), plain(api.Re{}), "Open with an error", x.text)
			got = failed(e)
		}
		same(t, got, x.want, "Open", x.text, x.def)
	}
	limits := 0
	for seed := range uint64(400) {
		m := newMaker(seed, nil)
		bodies := []api.Re{one(label("a"), 0)}
		for len(bodies) < 11 {
			x, y := ref(len(bodies)-1-m.IntN(min(2, len(bodies)))), ref(m.IntN(len(bodies)))
			bodies = append(bodies, []api.Re{seq(x, y), star(x), and(not(x), x), mix(x, one(label("b"), 3)), alt(eps(), seq(y, x))}[m.IntN(5)])
		}
		g := named(bodies...)
		for def, d := range g.Defs {
			want := opened(g, d.Body)
			r, e := grammar.Open(g, def)
			if len(flat(want)) > 60 {
				limits++
				same(t, e, api.ErrLimit, "Open", grammarText(g), def)
				want = api.Re{}
			} else {
				same(t, e, api.OK, "Open", grammarText(g), def)
			}
			same(t, plain(r), plain(want), "Open", grammarText(g), def)
		}
	}
	same(t, limits > 100, true, "opened ones that are too large", limits)
}

// P5.4: Trim.
func TestTrim(t *testing.T) {
	circle := "a:[x]d\nb:a\nc:[c]c\nd:(c|b)\ne:(a,c)\n"
	for _, x := range []struct {
		text string
		defs []int
		want string
		now  []int
	}{
		{exampleText, []int{3}, "none:.\ntext:*([$]none|[b]text)\nhead:[h]text\n", []int{0, 1, -1, 2, -1, -1}}, {exampleText, []int{2, 0, 2}, "none:.\ntext:*([$]none|[b]text)\npar:[p]text\n", []int{0, 1, 2, -1, -1, -1}}, {exampleText, []int{0}, "none:.\n", []int{0, -1, -1, -1, -1, -1}}, {exampleText, []int{5}, exampleText, []int{0, 1, 2, 3, 4, 5}}, {exampleText, []int{3, 2, 1, 0}, "none:.\ntext:*([$]none|[b]text)\npar:[p]text\nhead:[h]text\n", []int{0, 1, 2, 3, -1, -1}},
		{circle, []int{2}, "c:[c]c\n", []int{-1, -1, 0, -1, -1}}, {circle, []int{1}, "a:[x]d\nb:a\nc:[c]c\nd:(c|b)\n", []int{0, 1, 2, 3, -1}}, {circle, []int{4, 2}, circle, []int{0, 1, 2, 3, 4}}, {circle, slices.Repeat([]int{2}, 10000), "c:[c]c\n", []int{-1, -1, 0, -1, -1}},
		{exampleText, nil, failed(api.ErrMany), nil}, {exampleText, []int{}, failed(api.ErrMany), nil}, {exampleText, []int{6}, failed(api.ErrAbsent), nil}, {exampleText, []int{0, -1}, failed(api.ErrAbsent), nil}, {exampleText, []int{1 << 62, 0}, failed(api.ErrAbsent), nil}, {exampleText, []int{0, 0, 0, 0, -1 << 63}, failed(api.ErrAbsent), nil},
	} {
		g, now, e := grammar.Trim(must(t, x.text), x.defs)
		same(t, told(g, e), x.want, "Trim", x.text, x.defs)
		same(t, plain(now), plain(x.now), "Trim", x.text, x.defs)
	}
	for seed := range uint64(300) {
		m := newMaker(seed, allSorts)
		g := m.grammar(8, 7)
		var asked []int
		kept := map[int]bool{}
		for range 1 + m.IntN(2) {
			def := m.IntN(len(g.Defs))
			asked = append(asked, def)
			reach, _ := grammar.Reach(g, def)
			for _, k := range reach {
				kept[k] = true
			}
		}
		want, count := "", 0
		var at []int
		for def, line := range lines(g) {
			at = append(at, -1)
			if kept[def] {
				want += line
				at[def] = count
				count++
			}
		}
		trimmed, now, e := grammar.Trim(g, asked)
		same(t, told(trimmed, e), want, "Trim", grammarText(g), asked)
		same(t, plain(now), plain(at), "Trim", grammarText(g), asked)
	}
}

// P5.4: Join.
func TestJoin(t *testing.T) {
	eleven := ""
	for _, c := range "bcdefghijkl" {
		eleven += string(c) + ":.\n"
	}
	guards := "z:([@a]z|([@a=\"\"]z|([@b]z|([\"a\"]z|([^\"a\"]z|([<1]z|([<1/2]z|([#]z|[$]z))))))))\n"
	for _, x := range []struct{ a, b, want string }{
		{"a:.\n", "b:[c]b\nd:b\n", "a:.\nb:[c]b\nd:b\n"}, {"b:[c]b\nd:b\n", "a:.\n", "b:[c]b\nd:b\na:.\n"}, {exampleText, "x:[b]y\ny:*x\n", exampleText + "x:[b]y\ny:*x\n"}, {"x:[b]y\ny:(.,!x)\n", "a:[a]b\nb:(a|[*]b)\n", "x:[b]y\ny:(.,!x)\na:[a]b\nb:(a|[*]b)\n"},
		{"a:.\n", eleven, "a:.\n" + eleven}, {"a:.\nz:.\n", eleven, failed(api.ErrMany)}, {eleven, "a:.\nz:.\n", failed(api.ErrMany)}, {"a:.\n", "a:~\n", failed(api.ErrTwice)}, {exampleText, exampleText, failed(api.ErrTwice)}, {"a:.\nb:.\n", "c:.\nb:~\n", failed(api.ErrTwice)},
		{"a:" + strings.Repeat("!", 29) + ".\n", "b:" + strings.Repeat("!", 29) + ".\n", "a:" + strings.Repeat("!", 29) + ".\nb:" + strings.Repeat("!", 29) + ".\n"}, {"a:" + strings.Repeat("!", 29) + ".\n", "b:" + strings.Repeat("!", 30) + ".\n", failed(api.ErrMany)}, {"a:" + strings.Repeat("!", 29) + ".\n", "a:" + strings.Repeat("!", 30) + ".\n", failed(api.ErrMany)},
		{exampleText, "z:[z]z\n", failed(api.ErrLimit)}, {exampleText, "none:[z]none\n", failed(api.ErrTwice)}, {guards, "a:([%]a|[*]a)\n", guards + "a:([%]a|[*]a)\n"}, {guards, "a:([%]a|([*]a|[a]a))\n", failed(api.ErrMany)}, {guards, "a:([$]a|([<>]a|[@b]a))\n", guards + "a:([$]a|([<>]a|[@b]a))\n"},
	} {
		same(t, told(grammar.Join(must(t, x.a), must(t, x.b))), x.want, "Join", x.a, x.b)
	}
	joined := 0
	for seed := range uint64(300) {
		m := newMaker(seed, allSorts)
		a, b := m.grammar(6, 7), m.grammar(6, 7)
		for i := range b.Defs {
			b.Defs[i].Name = fmt.Sprint("e", i)
		}
		g, e := grammar.Join(a, b)
		want := grammarText(a) + grammarText(b)
		if len(a.Defs)+len(b.Defs) > 12 || len(allOf(a))+len(allOf(b)) > 60 {
			want = failed(api.ErrMany)
		} else {
			joined++
		}
		same(t, told(g, e), want, "Join", grammarText(a), grammarText(b))
	}
	same(t, joined > 200, true, "joined ones", joined)
}

// P5.4: Put and Rename.
func TestPutAndRename(t *testing.T) {
	g := must(t, exampleText)
	line := func(def int, s string) string {
		l := lines(g)
		l[def] = s + "\n"
		return strings.Join(l, "")
	}
	for i, x := range []struct {
		def  int
		r    api.Re
		want string
	}{
		{0, none(), line(0, "none:~")}, {2, not(ref(1)), line(2, "par:!text")}, {1, one(api.Guard{}, 5), line(1, "text:[*]doc")}, {5, ref(4), line(5, "doc:body")}, {5, seq(ref(0), mix(one(label("b"), 5), eps())), line(5, "doc:(none,([b]doc%.))")},
		{2, ref(4), failed(api.ErrOrder)}, {2, ref(2), failed(api.ErrOrder)}, {0, ref(0), failed(api.ErrOrder)}, {2, ref(6), failed(api.ErrAbsent)}, {2, one(label("A"), -1), failed(api.ErrAbsent)}, {2, one(label("A"), 0), failed(api.ErrName)}, {2, re(99), failed(api.ErrForm)}, {2, re(api.RSeq), failed(api.ErrForm)}, {2, api.Re{Def: 1}, failed(api.ErrForm)}, {2, endless(), failed(api.ErrMany)}, {0, nots(48, eps()), line(0, "none:"+strings.Repeat("!", 48)+".")}, {0, nots(49, eps()), failed(api.ErrMany)}, {0, one(label("z"), 0), failed(api.ErrLimit)}, {0, guardsBy(10), failed(api.ErrMany)}, {2, one(endlessGuard(), 0), failed(api.ErrMany)},
		{6, none(), failed(api.ErrAbsent)}, {-1, none(), failed(api.ErrAbsent)}, {1 << 62, endless(), failed(api.ErrAbsent)},
	} {
		same(t, told(grammar.Put(g, x.def, x.r)), x.want, "Put", i)
	}
	for i, x := range []struct {
		def        int
		name, want string
	}{
		{3, "h1", strings.ReplaceAll(exampleText, "head", "h1")}, {3, "head", exampleText}, {1, "p", strings.ReplaceAll(exampleText, "text", "p")}, {0, "abcdefgh", strings.ReplaceAll(exampleText, "none", "abcdefgh")}, {5, "doc", exampleText}, {5, "d", line(5, "d:[doc]body")},
		{3, "par", failed(api.ErrTwice)}, {2, "head", failed(api.ErrTwice)}, {0, "doc", failed(api.ErrTwice)}, {3, "Par", failed(api.ErrName)}, {3, "", failed(api.ErrName)}, {3, "abcdefghi", failed(api.ErrName)}, {3, strings.Repeat("a", 1000000), failed(api.ErrName)},
		{6, "x", failed(api.ErrAbsent)}, {-1, "", failed(api.ErrAbsent)}, {1 << 62, "par", failed(api.ErrAbsent)},
	} {
		same(t, told(grammar.Rename(g, x.def, x.name)), x.want, "Rename", i)
	}
}

// P5.4: Simple and Turn.
func TestSimpleAndTurn(t *testing.T) {
	for s, want := range map[string][2]string{
		"(.,(~|*.))": {".", "((~|*.),.)"}, "!!(*[a]a&*[a]a)": {"*[a]a", "!!(*[a]a&*[a]a)"}, "([a]a,*[b]a)": {"([a]a,*[b]a)", "(*[b]a,[a]a)"}, "**[a]a": {"*[a]a", "**[a]a"}, "*(~|.)": {".", "*(~|.)"}, "(([a]a,~)|[b]a)": {"[b]a", "((~,[a]a)|[b]a)"},
		"(~,[a]a)": {"~", "([a]a,~)"}, "([a]a,~)": {"~", "(~,[a]a)"}, "(.,[a]a)": {"[a]a", "([a]a,.)"}, "([a]a,.)": {"[a]a", "(.,[a]a)"}, "(.,.)": {".", "(.,.)"}, "(~,.)": {"~", "(.,~)"}, "([a]a,[a]a)": {"([a]a,[a]a)", "([a]a,[a]a)"}, "([a]a,([b]a,[*]a))": {"([a]a,([b]a,[*]a))", "(([*]a,[b]a),[a]a)"}, "(([a]a,[b]a),([b]a|(.,[*]a)))": {"(([a]a,[b]a),([b]a|[*]a))", "(([b]a|([*]a,.)),([b]a,[a]a))"},
		"(~%[a]a)": {"~", "(~%[a]a)"}, "([a]a%~)": {"~", "([a]a%~)"}, "(.%[a]a)": {"[a]a", "(.%[a]a)"}, "([a]a%.)": {"[a]a", "([a]a%.)"}, "([a]a%[a]a)": {"([a]a%[a]a)", "([a]a%[a]a)"}, "([a]a%(.%.))": {"[a]a", "([a]a%(.%.))"}, "(.%.)": {".", "(.%.)"}, "(.%~)": {"~", "(.%~)"},
		"(~|[a]a)": {"[a]a", "(~|[a]a)"}, "([a]a|~)": {"[a]a", "([a]a|~)"}, "(~|~)": {"~", "(~|~)"}, "([a]a|[a]a)": {"[a]a", "([a]a|[a]a)"}, "([a]a|[b]a)": {"([a]a|[b]a)", "([a]a|[b]a)"}, "([a]a|([a]a|~))": {"[a]a", "([a]a|([a]a|~))"}, "(.|[a]a)": {"(.|[a]a)", "(.|[a]a)"}, "([a]a|([b]a|[a]a))": {"([a]a|([b]a|[a]a))", "([a]a|([b]a|[a]a))"}, "(!~|[a]a)": {"(!~|[a]a)", "(!~|[a]a)"},
		"(~&[a]a)": {"~", "(~&[a]a)"}, "([a]a&~)": {"~", "([a]a&~)"}, "((~%[a]a)&.)": {"~", "((~%[a]a)&.)"}, "(.&.)": {".", "(.&.)"}, "(.&[a]a)": {"(.&[a]a)", "(.&[a]a)"}, "(!~&[a]a)": {"(!~&[a]a)", "(!~&[a]a)"}, "([a]a&[!a]a)": {"([a]a&[!a]a)", "([a]a&[!a]a)"}, "(([a]a,[b]a)&([a]a,[b]a))": {"([a]a,[b]a)", "(([b]a,[a]a)&([b]a,[a]a))"}, "(([a]a,[b]a)&([b]a,[a]a))": {"(([a]a,[b]a)&([b]a,[a]a))", "(([b]a,[a]a)&([a]a,[b]a))"}, "([a]a&[a]b)": {"([a]a&[a]b)", "([a]a&[a]b)"}, "(!!a1&a1)": {"a1", "(!!a1&a1)"}, "(a1|a2)": {"(a1|a2)", "(a1|a2)"},
		"*~": {".", "*~"}, "*.": {".", "*."}, "***[a]a": {"*[a]a", "***[a]a"}, "*!~": {"*!~", "*!~"}, "*(.|*[a]a)": {"*(.|*[a]a)", "*(.|*[a]a)"}, "*(.,*[a]a)": {"*[a]a", "*(*[a]a,.)"},
		"!~": {"!~", "!~"}, "!!~": {"~", "!!~"}, "!!!a1": {"!a1", "!!!a1"}, "!!!!a1": {"a1", "!!!!a1"}, "!(~&!~)": {"!~", "!(~&!~)"}, "!(.,!a1)": {"a1", "!(!a1,.)"}, "*!!*a1": {"*a1", "*!!*a1"}, "~": {"~", "~"}, "a1": {"a1", "a1"}, "[<1]b": {"[<1]b", "[<1]b"},
	} {
		front, behind := "a1:.\na2:.\n", "a:.\nb:.\n"
		g := must(t, front+"x:"+s+"\n"+behind)
		same(t, told(grammar.Simple(g)), front+"x:"+want[0]+"\n"+behind, "Simple", s)
		same(t, told(grammar.Turn(g)), front+"x:"+want[1]+"\n"+behind, "Turn", s)
	}
	for seed := range uint64(1500) {
		g := newMaker(seed, append(sorts{api.RNone, api.RNone, api.REps, api.REps, api.REps, api.RNot, api.RStar, api.RRef}, allSorts...)).grammar(4, 14)
		simplest, turnedOver := defs(slices.Clone(g.Defs)...), defs(slices.Clone(g.Defs)...)
		for i, d := range g.Defs {
			simplest.Defs[i].Body = simple(d.Body)
			turnedOver.Defs[i].Body = turned(d.Body)
		}
		same(t, told(grammar.Simple(g)), grammarText(simplest), "Simple", grammarText(g))
		same(t, told(grammar.Turn(g)), grammarText(turnedOver), "Turn", grammarText(g))
	}
}

// simple is an expression made simple, of which the same ones have the same text.
func simple(r api.Re) api.Re {
	if len(r.Subs) == 0 {
		return r
	}
	names := make([]string, 12)
	for i := range names {
		names[i] = fmt.Sprint("d", i)
	}
	first := simple(r.Subs[0])
	if len(r.Subs) == 1 {
		switch s := reText(first, names); {
		case r.Op == api.RStar && (s == "~" || s == "."):
			return eps()
		case r.Op == api.RStar && s[0] == '*':
			return first
		case r.Op == api.RNot && s[0] == '!':
			return first.Subs[0]
		}
		return re(r.Op, first)
	}
	second := simple(r.Subs[1])
	s, u := reText(first, names), reText(second, names)
	switch together := r.Op == api.RSeq || r.Op == api.RMix; {
	case r.Op != api.RAlt && (s == "~" || u == "~"):
		return none()
	case together && s == ".", r.Op == api.RAlt && s == "~":
		return second
	case together && u == ".", r.Op == api.RAlt && u == "~", !together && s == u:
		return first
	}
	return re(r.Op, first, second)
}

// turned is an expression with its sequences in the other order.
func turned(r api.Re) api.Re {
	var subs []api.Re
	for _, sub := range r.Subs {
		if r.Op == api.RSeq {
			subs = append([]api.Re{turned(sub)}, subs...)
		} else {
			subs = append(subs, turned(sub))
		}
	}
	r.Subs = subs
	return r
}

// P5.7: a forest is of the same definitions in a grammar that is trimmed, joined, renamed or made simple, and the opened Body has the same forests. P5.8: a forest that is turned is of a definition of the grammar that is turned just if it was of it; a grammar that is turned twice is itself. P5.11: what is simple has no more expressions, and is simple.
func TestKept(t *testing.T) {
	counts := map[bool]int{}
	for seed := range uint64(250) {
		m := newMaker(seed, allSorts)
		g := m.grammar(5, 8)
		at := m.IntN(len(g.Defs))
		trimmed, now, _ := grammar.Trim(g, []int{at})
		front := named(seq(one(label("a"), 1), eps()), star(one(label("b"), 0)))
		front.Defs[0].Name, front.Defs[1].Name = "x", "y"
		joined, e := grammar.Join(front, g)
		same(t, e, api.OK, "Join", grammarText(g))
		behind, e := grammar.Join(g, front)
		same(t, e, api.OK, "Join", grammarText(g))
		renamed, e := grammar.Rename(g, at, "other")
		same(t, e, api.OK, "Rename", grammarText(g))
		simplest, e := grammar.Simple(g)
		same(t, e, api.OK, "Simple", grammarText(g))
		again, e := grammar.Simple(simplest)
		same(t, told(again, e), grammarText(simplest), "what is simple is simple", grammarText(g))
		for i, d := range simplest.Defs {
			same(t, len(flat(d.Body)) <= len(flat(g.Defs[i].Body)), true, "what is simple has no more expressions", grammarText(g))
		}
		over, e := grammar.Turn(g)
		same(t, e, api.OK, "Turn", grammarText(g))
		back, e := grammar.Turn(over)
		same(t, told(back, e), grammarText(g), "what is turned twice is itself")
		whole := g
		if r, e := grammar.Open(g, at); e == api.OK {
			if whole, e = grammar.Put(g, at, r); e != api.OK {
				same(t, e, api.ErrMany, "Put of the opened Body", grammarText(g))
				whole = g
			}
		}
		for text := range m.some(g, 4) {
			f, _ := tree.Parse(text)
			for _, f := range [][]api.Tree{f, m.forest(9)} {
				is := in(g, f)
				counts[strings.Contains(is, "1")]++
				kept := in(trimmed, f)
				for def, k := range now {
					if k >= 0 {
						same(t, kept[k], is[def], "trimmed", grammarText(g), def, forestText(f))
					}
				}
				same(t, in(joined, f)[2:], is, "joined behind another one", grammarText(g), forestText(f))
				same(t, in(behind, f)[:len(is)], is, "joined before another one", grammarText(g), forestText(f))
				same(t, in(renamed, f), is, "renamed", grammarText(g), forestText(f))
				same(t, in(simplest, f), is, "made simple", grammarText(g), forestText(f))
				same(t, in(whole, f), is, "opened", grammarText(g), at, forestText(f))
				backwards, e := tree.Turn(f)
				same(t, e, api.OK, "Turn", forestText(f))
				same(t, in(over, backwards), is, "turned", grammarText(g), forestText(f))
			}
		}
	}
	same(t, counts[true] > 300 && counts[false] > 100, true, "members and others", counts)
}
