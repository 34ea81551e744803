package grammar_test

import (
	"fmt"
	"maps"
	"regexp"
	"slices"
	"strings"
	"testing"
	"time"

	"withy/api"
	"withy/grammar"
	"withy/tree"
)

// P5.2: In and All, of the cases that the chapter names.
func TestMembers(t *testing.T) {
	example := must(t, exampleText)
	for text, cases := range map[string]map[string]string{
		exampleText: {`doc{p{"hi" b{"x"}} h}`: "000001", "doc{p{p}}": "000000", "": "110010", `"a" b`: "010000", "p h": "000010", "p": "001010", "h": "000110", "doc": "000001", "doc doc": "000000", "p{7}": "000000", `p{b{"x" b{b}}}`: "001010", `p{b{"x" b{p}}}`: "000000"},

		// each kind of expressions alone
		"a:~\nb:.\nc:[*]b\nd:[#]b\ne:[#]c\nf:[#]a\ng:[*]c\n":                                                           {"7": "0011000", "a": "0010000", "a{7}": "0000001", "": "0100000", "7 7": "0000000"},
		"a:!~\nb:[$]a\nc:[a]a\nd:[!a]a\n":                                                                              {`"x"`: "1101", "a": "1010", "b": "1001", "a{b 7}": "1010"},
		"n:.\na:([a]n,[b]n)\nb:([b]n,[a]n)\nc:(.,[a]n)\nd:(~,[a]n)\ne:([a]n,.)\n":                                      {"a b": "010000", "a": "000101", "b a": "001000", "": "100000", "a b a": "000000"},
		"n:.\na:([a]n|[b]n)\nb:([a]n|~)\nc:(.|[a]n)\nd:(~|[b]n)\n":                                                     {"a": "01110", "b": "01001", "": "10010", "a b": "00000"},
		"n:.\na:*[a]n\nb:*([a]n,[b]n)\nc:**[a]n\nd:*.\ne:*~\nf:*(.|[a]n)\n":                                            {"": "1111111", "a a a": "0101001", "a b a b": "0010000", "a b a": "0000000"},
		"n:.\na:([*]n&[a]n)\nb:(*[a]n&(*[*]n,*[a]n))\nc:([a]n&[b]n)\nd:(~&[a]n)\ne:([a]n&~)\n":                         {"a": "011000", "": "101000", "b": "000000", "a a": "001000"},
		"n:.\na:!n\nb:!*[a]n\nc:!~\nd:!!n\ne:(!n,!n)\nf:*!n\n":                                                         {"": "1001101", "a": "0101001", "b 7": "0111011"},
		"n:.\na:(*[a]n%[b]n)\nb:([a]n%.)\nc:(~%[a]n)\nd:(([a]n,[b]n)%([a]n,[b]n))\ne:([a]n%([b]n%[c]n))\nf:(.%[a]n)\n": {"a b a": "0100000", "b": "0100000", "a b b": "0000000", "a a b b": "0000100", "a b a b": "0000100", "a b b a": "0000000", "c a b": "0000010", "a": "0010001", "": "1000000"},
		"n:.\na:[a]n\nb:a\nc:(b,!b)\nd:[b]d\ne:[b]f\nf:(n|e)\n":                                                        {"a": "0111000", "a b": "0001000", "a a": "0000000", "b{b{b}}": "0000011", "b": "0000011", "": "1000001"},

		// a tree of a mix keeps its kids
		"n:.\na:([a]b%[b]n)\nb:([c]n%[a]n)\n": {"b a{c a}": "010", "b a{c c}": "000", "a{a c} b": "010", "a b{a c}": "000"},
	} {
		g := must(t, text)
		for s, want := range cases {
			f := forest(t, s)
			same(t, in(g, f), want, "All", text, s)
			for def := range g.Defs {
				is, e := grammar.In(g, def, f)
				same(t, is, want[def] == '1', "In", text, s, def)
				same(t, e, api.OK, "In", text, s, def)
			}
		}
	}
	for _, d := range []int{6, -1, 1 << 62} {
		is, e := grammar.In(example, d, nil)
		same(t, is, false, "In of no definition", d)
		same(t, e, api.ErrAbsent, "In of no definition", d)
	}
}

// P5.2: how many trees can stand beside each other where there are mixes.
func TestWide(t *testing.T) {
	mixes := must(t, "n:.\nx:!~\na:(*[a]n%[b]n)\n")
	free := must(t, "n:.\nx:!~\na:*[a]n\n")
	wide := func(count int) []api.Tree { return append(row("a", count-1), elem("b")) }
	around := func(f []api.Tree) []api.Tree { return []api.Tree{elem("a"), elem("b", elem("c"), elem("c", f...))} }
	same(t, in(mixes, wide(12)), "011", "twelve trees")
	same(t, in(mixes, wide(13)), failed(api.ErrLimit)+"[]", "thirteen trees")
	same(t, in(mixes, around(wide(12))), "010", "twelve kids")
	same(t, in(mixes, around(wide(13))), failed(api.ErrLimit)+"[]", "thirteen kids")
	same(t, in(mixes, slices.Repeat(around(row("a", 10)), 6)), "010", "many trees, twelve beside each other")
	same(t, in(mixes, chain(api.MaxDeep, elem("a"))), "010", "deep")
	for def := range 3 {
		_, e := grammar.In(mixes, def, wide(13))
		same(t, e, api.ErrLimit, "In: another definition has the mix", def)
		_, e = grammar.In(mixes, def, wide(12))
		same(t, e, api.OK, "In", def)
	}
	same(t, in(free, row("a", 400)), "011", "four hundred trees")
	same(t, in(free, row("a", 401)), failed(api.ErrMany)+"[]", "a tree too many")
	same(t, in(free, chain(api.MaxDeep+1)), failed(api.ErrLimit)+"[]", "too deep")
	same(t, in(must(t, "a:(~|(~%~))\n"), row("a", 13)), failed(api.ErrLimit)+"[]", "a mix that is never used")
}

// chain is an element in another one, so many trees deep, around others.
func chain(deep int, inside ...api.Tree) []api.Tree {
	f := inside
	if len(inside) > 0 {
		deep--
	}
	for range deep {
		f = []api.Tree{elem("a", f...)}
	}
	return f
}

// P5.2, P5.6: all small forests, of grammars of all sorts, are of the definitions that make them.
func TestSmallForests(t *testing.T) {
	universe := newWorld(api.Grammar{})
	counts := map[bool]int{}
	for seed := range uint64(220) {
		m := newMaker(seed, [][]api.ReOp{allSorts, plainSorts, longSorts}[seed%3])
		g := m.grammar(4, 12)
		most := 3
		if seed%20 == 0 {
			most = 4
		}
		w := newWorld(g)
		for k := range most + 1 {
			w.known[[2]int{-1, k}] = universe.all(k)
		}
		nulls, e := grammar.Null(g)
		same(t, e, api.OK, "Null", grammarText(g))
		for text, f := range universe.all(most) {
			want := ""
			for def := range g.Defs {
				is := has(w.of(def, most), text)
				counts[is]++
				want += map[bool]string{false: "0", true: "1"}[is]
			}
			same(t, in(g, f.forest()), want, "All", grammarText(g), text)
			if text == "" {
				same(t, bits(nulls), want, "Null", grammarText(g))
			}
		}
	}
	same(t, counts[true] > 5000 && counts[false] > 5000, true, "members and others", counts)
}

// P5.2, P5.6: forests that are large, and of which lists are long, piece by piece.
func TestLargeForests(t *testing.T) {
	counts := map[bool]int{}
	for seed := range uint64(600) {
		m := newMaker(seed, longSorts)
		g := m.grammar(4, 10)
		f := m.forest([]int{10, 40, 140}[seed%3])
		if seed%25 == 0 {
			f = nil
			for range 60 + m.IntN(20) { // beside each other
				f = append(f, elem([]string{"a", "a", "b"}[m.IntN(3)]))
			}
		}
		l, e := grammar.All(g, f)
		same(t, e, api.OK, "All", grammarText(g))
		for def, is := range l {
			counts[is]++
			same(t, is, isOf(g, def, f), "All", grammarText(g), def, forestText(f))
		}
	}
	same(t, counts[true] > 30 && counts[false] > 30, true, "members and others", counts)
}

// P5.2: lists of any length are matched as texts of letters are by regular expressions.
func TestLongLists(t *testing.T) {
	counts := map[bool]int{}
	for seed := range uint64(150) {
		m := newMaker(seed, sorts{api.REps, api.RTree, api.RTree, api.RSeq, api.RSeq, api.RAlt, api.RStar, api.RStar})
		m.guards = m.guards[:2]
		g := named(eps(), m.expression(14, 0, 1), m.expression(14, 0, 1), star(m.expression(8, 0, 1)))
		for _, count := range []int{1, 5, 62, 63, 64, 65, 127, 128, 129, 191, 192, 250, 400} {
			word := m.word(g.Defs[1+m.IntN(3)].Body, &count)
			word = word[:min(len(word), api.MaxTrees)]
			if at := m.IntN(len(word) + 1); at < len(word) && m.IntN(3) == 0 {
				word = word[:at] + "b" + word[at+1:]
			}
			var f []api.Tree
			for _, c := range word {
				f = append(f, elem(string(c)))
			}
			want := ""
			for _, d := range g.Defs {
				is := regexp.MustCompile("^" + form(d.Body) + "$").MatchString(word)
				counts[is] += len(word) / 64
				want += map[bool]string{false: "0", true: "1"}[is]
			}
			same(t, in(g, f), want, "All", grammarText(g), word)
		}
	}
	same(t, counts[true] > 1000 && counts[false] > 1000, true, "members and others", counts)
}

// form is the regular expression of an expression of elements a and b.
func form(r api.Re) string {
	switch r.Op {
	case api.RTree:
		return r.Guard.Name
	case api.RSeq:
		return "(?:" + form(r.Subs[0]) + form(r.Subs[1]) + ")"
	case api.RAlt:
		return "(?:" + form(r.Subs[0]) + "|" + form(r.Subs[1]) + ")"
	case api.RStar:
		return "(?:" + form(r.Subs[0]) + ")*"
	}
	return "(?:)"
}

// word returns a text that the form matches, of more than so many letters, if it is easy.
func (m maker) word(r api.Re, count *int) string {
	switch r.Op {
	case api.RTree:
		*count--
		return r.Guard.Name
	case api.RSeq:
		front := m.word(r.Subs[0], count)
		return front + m.word(r.Subs[1], count)
	case api.RAlt:
		return m.word(r.Subs[m.IntN(2)], count)
	case api.RStar:
		s := ""
		for *count > 0 {
			more := m.word(r.Subs[0], count)
			if more == "" {
				break
			}
			s += more
		}
		return s
	}
	return ""
}

// P0.1: the largest grammars and forests are soon done.
func TestSoon(t *testing.T) {
	begin := time.Now()
	long := row("a", api.MaxTrees)
	same(t, in(must(t, "n:.\na:"+strings.Repeat("*", 58)+"[a]n\n"), long), "01", "stars in each other")
	same(t, in(must(t, "n:.\na:"+strings.Repeat("!*", 29)+"[b]n\n"), long), "01", "stars and nots in each other")
	same(t, in(must(t, "n:.\na:"+strings.Repeat("(*[a]n,", 19)+"*[b]n"+strings.Repeat(")", 19)+"\n"), long), "01", "stars behind each other")
	f := []api.Tree{}
	for range 30 {
		f = append(f, elem("a", row("b", 12)...))
	}
	mixes := must(t, "n:.\na:"+strings.Repeat("(!.%", 18)+"!."+strings.Repeat(")", 18)+"\n")
	same(t, in(mixes, []api.Tree{elem("a", f[:12]...), elem("b", f[12:24]...)}), "00", "mixes of which no forest is")
	var refs []api.Re
	for i := range 12 {
		refs = append(refs, seq(eps(), eps()))
		if i > 0 {
			refs[i] = seq(ref(i-1), seq(ref(i-1), ref(i-1)))
		}
	}
	g := named(refs...)
	same(t, in(g, nil), strings.Repeat("1", 12), "definitions in definitions")
	n, e := grammar.Stars(g, 11)
	same(t, fmt.Sprint(n, e), "0 0", "Stars of them")
	_, e = grammar.Open(g, 11)
	same(t, e, api.ErrLimit, "Open of them")
	same(t, time.Since(begin) < 20*time.Second, true, "soon", time.Since(begin))
}

// trio returns definitions d0 to d3 of a random grammar that others can name, and forests that can tell them apart.
func (m maker) trio() (defs []api.Def, forests [][]api.Tree) {
	var bodies []api.Re
	for at := range 4 {
		bodies = append(bodies, m.expression(7, at, 4))
	}
	for range 12 {
		forests = append(forests, m.forest(8))
	}
	for text := range m.some(named(bodies...), 3) {
		f, _ := tree.Parse(text)
		forests = append(forests, f)
	}
	return named(bodies...).Defs, forests
}

// some returns forests that are of definitions.
func (m maker) some(g api.Grammar, most int) language {
	l := language{}
	w := newWorld(g)
	for def := range g.Defs {
		known := slices.Sorted(maps.Keys(w.of(def, most)))
		for range min(3, len(known)) {
			f := w.of(def, most)[known[m.IntN(len(known))]]
			l.add(f)
		}
	}
	return l
}

// P5.6: what forests an expression has is said by its Subs, as the functions tell it themselves.
func TestPieces(t *testing.T) {
	counts := map[string]int{}
	for seed := range uint64(150) {
		m := newMaker(seed, allSorts)
		l, forests := m.trio()
		x, y := ref(1), ref(2)
		for i, r := range []api.Re{seq(x, y), alt(x, y), star(x), and(x, y), not(x), mix(x, y), one(label("a"), 1), x} {
			l = append(l, def("e"+string(rune('0'+i)), r))
		}
		g := defs(l...)
		for _, f := range forests {
			chosen := make([]string, 1<<len(f)) // by the trees that are taken: of what definitions they are
			for choice := range chosen {
				var part []api.Tree
				for i, t := range f {
					if choice>>i&1 == 1 {
						part = append(part, t)
					}
				}
				chosen[choice] = in(g, part)
			}
			all := len(chosen) - 1
			is := func(def, choice int) bool { return chosen[choice][def] == '1' }
			isSeq, isStar, isMix := false, len(f) == 0, false
			for cut := range len(f) + 1 {
				front := 1<<cut - 1
				isSeq = isSeq || is(1, front) && is(2, all-front)
				isStar = isStar || cut > 0 && is(1, front) && is(6, all-front)
			}
			for choice := range chosen {
				isMix = isMix || is(1, choice) && is(2, all-choice)
			}
			isTree := len(f) == 1 && f[0].Label == "a" && in(g, f[0].Kids)[1] == '1'
			want := bits([]bool{isSeq, is(1, all) || is(2, all), isStar, is(1, all) && is(2, all), !is(1, all), isMix, isTree, is(1, all)})
			same(t, chosen[all][4:], want, "what Subs say", grammarText(g), forestText(f))
			for i, b := range want {
				counts[fmt.Sprint(i, string(b))]++
			}
		}
	}
	for i := range 8 {
		for _, b := range "01" {
			same(t, counts[fmt.Sprint(i, string(b))] > 30, true, "how often", i, string(b), counts)
		}
	}
}

// P5.10: the laws of sequences, choices, stars, mixes, and of not and and.
func TestLaws(t *testing.T) {
	laws := strings.Fields(`
		(x,(y,z))=((x,y),z) (x,.)=x (.,x)=x (x,~)=~ (~,x)=~ (x,(y|z))=((x,y)|(x,z)) ((y|z),x)=((y,x)|(z,x)) (x,(y&z))=((x,(y&z))&((x,y)&(x,z)))
		(x|y)=(y|x) (x|(y|z))=((x|y)|z) (x|~)=x (x|x)=x (x|!~)=!~ (x|(x&y))=x
		*x=(.|(x,*x)) *x=(.|(*x,x)) **x=*x *(x|y)=*(*x,*y) (*x,*x)=*x *.=. *~=. *!~=!~ *(x|.)=*x (x,*(y,x))=(*(x,y),x)
		(x&y)=(y&x) (x&(y&z))=((x&y)&z) (x&!~)=x (x&~)=~ (x&x)=x (x&(y|z))=((x&y)|(x&z)) (x|(y&z))=((x|y)&(x|z)) (x&(x|y))=x
		!!x=x !(x|y)=(!x&!y) !(x&y)=(!x|!y) (x&!x)=~ (x|!x)=!~
		(x%y)=(y%x) (x%(y%z))=((x%y)%z) (x%.)=x (x%~)=~ (x%(y|z))=((x%y)|(x%z)) ((x,y)&!(x%y))=~ ((y,x)&!(x%y))=~ (*x%*x)=(*x%(.|*x)) (x%!~)=(!~%(x%!~))
		[(a|b)]x=([a]x|[b]x) [a](x|y)=([a]x|[a]y) [a](x&y)=([a]x&[a]y) [*]x=([<>]x|[!<>]x) ([a]x&[b]x)=~`)
	alone := regexp.MustCompile(`\](\([^)]*\))`)
	for i, law := range laws {
		held := map[bool]int{}
		for seed := range uint64(25) {
			left, right, _ := strings.Cut(law, "=")
			m := newMaker(uint64(i)*1000+seed, allSorts)
			l, forests := m.trio()
			text := strings.NewReplacer("d1", "x", "d2", "y", "d3", "z").Replace(grammarText(defs(l...)))
			// what stands behind a bracket has a name of its own
			for _, side := range []*string{&left, &right} {
				if found := alone.FindStringSubmatch(*side); found != nil {
					text += "k:" + found[1] + "\n"
					*side = strings.Replace(*side, found[1], "k", 1)
				}
			}
			g := must(t, text+"left:"+left+"\nright:"+right+"\n")
			for _, f := range forests {
				s := in(g, f)
				held[strings.HasSuffix(s, "11")]++
				same(t, strings.HasSuffix(s, "11") || strings.HasSuffix(s, "00"), true, "law", law, grammarText(g), forestText(f), s)
			}
		}
		same(t, held[true]+held[false] > 100, true, "forests of the law", law)
		if !strings.HasSuffix(law, "=~") {
			same(t, held[true] > 0, true, "members of the law", law)
		}
	}
}
