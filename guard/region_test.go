package guard_test

import (
	"math/rand/v2"
	"slices"
	"strings"
	"testing"

	"withy/api"
	"withy/guard"
	"withy/num"
	"withy/tree"
)

// sameHead is for a head that has to be the one of a text, or, if that is empty, a zero value.
func sameHead(t *testing.T, h api.Head, want string, what ...any) {
	t.Helper()
	if want == "" && (h.Kind != 0 || h.Label != "" || len(h.Attrs) > 0 || h.Num != api.Num{} || h.Text != "") {
		t.Errorf("%.300v: %v, not a zero value", what, h)
	}
	if got := headText(h); want != "" && got != want {
		t.Errorf("%.300v: %s, not %s", what, got, want)
	}
}

// P3.2: Can.
func TestCan(t *testing.T) {
	for s, want := range map[string]string{
		"*": "a", "<>": "a", "#": "0", "$": `""`, "b": "b", "@k": `a(k="")`, `@k="1"`: `a(k="1")`, "<1": "0", "%": "0", `"x"`: `"x"`, `^"x"`: `"x"`, "!<>": "0", "!*": "", "!a": "b", "!b": "a", "(!<>&!#)": `""`,
		"(a&#)": "", "(a&b)": "", "(#&$)": "", "(a&!<>)": "", `("x"&^"y")`: "", `("x"&!^"")`: "", "(<2&!<3)": "", "(@k&!<>)": "", `(@k="1"&!@k)`: "", `(@k="1"&@k="2")`: "",
		"(<3&!<2)": "2", "((<3&!<2)&!%)": "5/2", "(%&<-5/2)": "-3", "(#&!%)": "1/2", "(<0&!%)": "-1/2", "(<0&%)": "-1", "(<1/2&!%)": "-1/2", "(<2/3&!%)": "1/2", "(#&!<1/2)": "1/2", "((#&!<1/2)&%)": "1", "((!<1/2&!%)&#)": "1/2", "((!<2/3&!%)&#)": "2/3", "((!<7/10&!%)&#)": "7/10",
		"(<1000&!<1000)": "", "(!<1000&#)": "1000", "((!<1000&#)&!%)": "2001/2", "(<-1000&%)": "-1001", "(<-1000&!%)": "-2001/2", "((<1/99&!<1/100)&!%)": "1/100", "(<1/50&!<1/100)": "1/100", "(<1&!(<0|%))": "1/2", "(<999/100&!(<499/50|%))": "499/50",
		`(^"a"&!"a")`: `"a "`, `($&!"")`: `" "`, `((^"a"&!"a")&!"a ")`: `"a  "`, `(($&!"")&!" ")`: `"  "`, `($&!^"")`: "",
		"((<>&!a)&!b)": "c", "(((<>&!a)&!b)&(!c&!d))": "e", "((<>&!b)&!c)": "a", `(@k&!@k="")`: `a(k=" ")`, `((@k&!@k="")&!@k=" ")`: `a(k="!")`, `((@k&!@k="")&!@k="!")`: `a(k=" ")`, "(@k&!@j)": `a(k="")`, "(@k&@j)": `a(j="",k="")`, "(@a&(@b&@c))": `a(a="",b="",c="")`, "((@a&@b)&(@c&@d))": "", "(!a&@a)": `b(a="")`,
	} {
		h, can, e := guard.Can(must(t, s))
		same(t, e, api.OK, "Can", s)
		same(t, can, want != "", "Can", s)
		sameHead(t, h, want, "Can", s)
	}
	full := strings.Repeat("x", api.MaxText)
	h, can, _ := guard.Can(and(starts(full), not(is(full))))
	same(t, can, false, "nothing is longer than the longest text", headText(h))
	h, _, _ = guard.Can(and(starts(full[1:]), not(is(full[1:]))))
	sameHead(t, h, `"`+full[1:]+` "`, "the longest text")
}

// P3.2: Entails and Same. `refuted` is the head that shows that a does not entail b, `apart` the one that shows that they are not the same.
func TestEntails(t *testing.T) {
	for _, x := range []struct{ a, b, refuted, apart string }{
		{`@k="1"`, "@k", "", `a(k="")`}, {"@k", `@k="1"`, `a(k="")`, `a(k="")`}, {"<1", "<2", "", "1"}, {"<2", "<1", "1", "1"}, {`^"ab"`, `^"a"`, "", `"a"`}, {`^"a"`, `^"ab"`, `"a"`, `"a"`}, {`"ab"`, `^"a"`, "", `"a"`}, {"!(a&b)", "*", "", ""}, {"#", "(%|<0)", "1/2", "1/2"}, {"a", "<>", "", "b"}, {"<>", "a", "b", "b"}, {"(a&@k)", "(@k&a)", "", ""}, {"*", "!*", "a", "a"}, {"!*", "*", "", "a"}, {"a", "b", "a", "a"}, {"b", "a", "b", "a"}, {"$", `^""`, "", ""}, {"*", "(<>|(#|$))", "", ""}, {"a", "#", "a", "a"}, {"#", "$", "0", "0"}, {"<1", "%", "1/2", "1/2"}, {"(%&<1)", "<1/2", "", "-1/2"}, {"((@a&@b)&@c)", "!@d", "", "a"}, {"(<2&!<1)", "(<3&!<1)", "", "2"},
	} {
		a, b := must(t, x.a), must(t, x.b)
		h, does, e := guard.Entails(a, b)
		same(t, e, api.OK, "Entails", x)
		same(t, does, x.refuted == "", "Entails", x)
		sameHead(t, h, x.refuted, "Entails", x)
		h, is, e := guard.Same(a, b)
		same(t, e, api.OK, "Same", x)
		same(t, is, x.apart == "", "Same", x)
		sameHead(t, h, x.apart, "Same", x)
	}
}

// P3.2 and P3.7: the evidence is the least one of all candidates; and what is so is so for each head.
func TestEvidence(t *testing.T) {
	for seed := range uint64(150) {
		p := newPool(seed)
		l := p.list(2, 11)
		a, b := l[0], l[1]
		if seed%3 == 0 {
			b = or(a, b)
		}
		heads := candidates([]api.Guard{a, b})
		for i, x := range []struct {
			ask  func() (api.Head, bool, api.Errno)
			is   func(h api.Head) bool
			none bool
		}{
			{func() (api.Head, bool, api.Errno) { return guard.Entails(a, b) }, func(h api.Head) bool { return accepts(a, h) && !accepts(b, h) }, true},
			{func() (api.Head, bool, api.Errno) { return guard.Same(a, b) }, func(h api.Head) bool { return accepts(a, h) != accepts(b, h) }, true},
		} {
			want, found := least(heads, x.is)
			h, does, e := x.ask()
			same(t, e, api.OK, "evidence", i, guardTexts(l))
			same(t, does, !found, "evidence", i, guardTexts(l))
			sameHead(t, h, map[bool]string{true: headText(want)}[found], "evidence", i, guardTexts(l))
			for range 50 {
				h := p.head()
				same(t, does && x.is(h), false, "what is so is so for each head", i, guardTexts(l), headText(h))
			}
		}
		want, found := least(candidates([]api.Guard{a}), func(h api.Head) bool { return accepts(a, h) })
		h, can, e := guard.Can(a)
		same(t, e, api.OK, "Can", guardText(a))
		same(t, can, found, "Can", guardText(a))
		sameHead(t, h, map[bool]string{true: headText(want)}[found], "Can", guardText(a))
	}
}

// regionsOf returns the texts of regions: of what is true in each, and of its head.
func regionsOf(t *testing.T, l []api.Guard) []string {
	t.Helper()
	all, e := guard.Regions(l)
	if e != api.OK {
		t.Fatalf("Regions(%s): %v", guardTexts(l), e)
	}
	var texts []string
	for _, x := range all {
		texts = append(texts, truthText(x.Truth)+" "+headText(x.Least))
	}
	return texts
}

// P3.3: Regions.
func TestRegions(t *testing.T) {
	for _, x := range []struct{ l, want []string }{
		{nil, []string{" a"}}, {[]string{"*"}, []string{"1 a"}}, {[]string{"!*"}, []string{"0 a"}}, {[]string{"a"}, []string{"0 b", "1 a"}}, {[]string{"b"}, []string{"0 a", "1 b"}}, {[]string{"<>"}, []string{"0 0", "1 a"}},
		{[]string{"a", "@k"}, []string{"00 b", `01 b(k="")`, "10 a", `11 a(k="")`}}, {[]string{"@k", "a"}, []string{"00 b", "01 a", `10 b(k="")`, `11 a(k="")`}},
		{[]string{"<1", "%"}, []string{"00 a", "01 1", "10 1/2", "11 0"}}, {[]string{`"a"`, `^"a"`, "$"}, []string{"000 a", `001 ""`, `011 "a "`, `111 "a"`}}, {[]string{"a", "a", "!a"}, []string{"001 b", "110 a"}},
		{[]string{"<>", "#", "$"}, []string{`001 ""`, "010 0", "100 a"}}, {[]string{`@k=""`, "@k"}, []string{"00 a", `01 a(k=" ")`, `11 a(k="")`}}, {[]string{"<0", "<1/2", "#", "%"}, []string{"0000 a", "0010 1/2", "0011 1", "0110 1/3", "0111 0", "1110 -1/2", "1111 -1"}},
		{[]string{"@a", "@b", "@c", "@d"}, []string{"0000 a", `0001 a(d="")`, `0010 a(c="")`, `0011 a(c="",d="")`, `0100 a(b="")`, `0101 a(b="",d="")`, `0110 a(b="",c="")`, `0111 a(b="",c="",d="")`, `1000 a(a="")`, `1001 a(a="",d="")`, `1010 a(a="",c="")`, `1011 a(a="",c="",d="")`, `1100 a(a="",b="")`, `1101 a(a="",b="",d="")`, `1110 a(a="",b="",c="")`}},
	} {
		got := regionsOf(t, mustAll(t, x.l...))
		same(t, strings.Join(got, "; "), strings.Join(x.want, "; "), "Regions", x.l)
	}
	for seed := range uint64(150) {
		p := newPool(seed)
		l := p.list(1+p.r.IntN(api.MaxList), 6)
		same(t, strings.Join(regionsOf(t, l), "; "), strings.Join(wanted(l), "; "), "Regions", guardTexts(l))
	}
}

// wanted is what Regions has to return, as texts.
func wanted(l []api.Guard) []string {
	heads := map[string]api.Head{}
	for _, h := range candidates(l) {
		of := region(l, h)
		old, is := heads[of]
		if c, _ := tree.CompareHeads(h, old); !is || c < 0 {
			heads[of] = h
		}
	}
	var texts []string
	for of, h := range heads {
		texts = append(texts, of+" "+headText(h))
	}
	slices.Sort(texts)
	return texts
}

// P3.3: the largest lists.
func TestLargest(t *testing.T) {
	var l []api.Guard
	for i, name := range []string{"p", "q", "r", "s"} {
		for k, value := range []string{"1", "2", "", "4"} {
			l = append(l, or(valued(name, value), label([]string{"a", "b", "c", "d"}[(i+k)%4])))
		}
	}
	pairs := []api.Guard{}
	for i := range 8 {
		pairs = append(pairs, or(l[2*i], l[2*i+1]))
	}
	pairs = append(pairs, and(below(1, 3), not(below(-1, 7))), and(starts("ab"), not(is("abc"))), op(api.GWhole), below(5, 2))
	same(t, len(pairs), api.MaxList, "guards")
	same(t, strings.Join(regionsOf(t, pairs), "; "), strings.Join(wanted(pairs), "; "), "Regions")
}

// P3.3: Which. P3.6: each head is in one region, which says what each guard says of it; each region's head is in it.
func TestWhich(t *testing.T) {
	l := mustAll(t, "a", "@k")
	for s, want := range map[string]int{"7": 0, "b": 0, `"a"`: 0, `c(k="2")`: 1, "a": 2, `a(j="")`: 2, `a(j="",k="")`: 3} {
		at, e := guard.Which(l, mustHead(t, s))
		same(t, at, want, "Which", s)
		same(t, e, api.OK, "Which", s)
	}
	at, e := guard.Which(nil, mustHead(t, "a"))
	same(t, at, 0, "Which of no guards")
	same(t, e, api.OK, "Which of no guards")
	for seed := range uint64(120) {
		p := newPool(seed)
		l := p.list(1+p.r.IntN(api.MaxList), 5)
		all, _ := guard.Regions(l)
		seen := map[string]bool{}
		for i, x := range all {
			of := truthText(x.Truth)
			same(t, seen[of], false, "a region is there twice", guardTexts(l), of)
			seen[of] = true
			same(t, len(x.Truth), len(l), "Truth", guardTexts(l))
			same(t, region(l, x.Least), of, "the head of a region is in it", guardTexts(l))
			at, e := guard.Which(l, x.Least)
			same(t, at, i, "Which of the head of a region", guardTexts(l))
			same(t, e, api.OK, "Which of the head of a region", guardTexts(l))
			same(t, i > 0 && truthText(all[i-1].Truth) >= of, false, "regions are in order", guardTexts(l))
		}
		for range 10 {
			h := p.head()
			at, e := guard.Which(l, h)
			same(t, e, api.OK, "Which", guardTexts(l), headText(h))
			same(t, truthText(all[at].Truth), region(l, h), "Which", guardTexts(l), headText(h))
		}
	}
}

// P3.9: each region of a list, without its last guard, is one of the list without it. The order of guards matters for the order of regions alone.
func TestFiner(t *testing.T) {
	for seed := range uint64(120) {
		p := newPool(seed)
		l := p.list(1+p.r.IntN(8), 6)
		last := len(l) - 1
		coarse := map[string]bool{}
		for _, s := range regionsOf(t, l[:last]) {
			coarse[s[:last]] = false
		}
		fine := regionsOf(t, l)
		for _, s := range fine {
			_, is := coarse[s[:last]]
			same(t, is, true, "a region without its last guard", guardTexts(l), s)
			coarse[s[:last]] = true
		}
		for s, met := range coarse {
			same(t, met, true, "no region of the longer list is within", guardTexts(l), s)
		}
		order := p.r.Perm(len(l))
		var other []api.Guard
		for _, i := range order {
			other = append(other, l[i])
		}
		var moved []string
		for _, s := range fine {
			truth := ""
			for _, i := range order {
				truth += s[i : i+1]
			}
			moved = append(moved, truth+s[len(l):])
		}
		slices.Sort(moved)
		same(t, strings.Join(regionsOf(t, other), "; "), strings.Join(moved, "; "), "other order", guardTexts(l))
	}
}

// P3.12: what guards say of numbers is as numbers compare; the least heads are least.
func TestNumbers(t *testing.T) {
	r := rand.New(rand.NewPCG(3, 12))
	values := []api.Num{{N: 0, D: 1}, {N: 1000, D: 1}, {N: -1000, D: 1}}
	for range 60 {
		a, e := num.Make(r.IntN(2001)-1000, 1+r.IntN(100))
		same(t, e, api.OK, "Make")
		values = append(values, a)
	}
	for _, a := range values {
		g := below(a.N, a.D)
		for _, b := range values {
			c, _ := num.Cmp(b, a)
			does, _ := guard.Holds(g, number(b.N, b.D))
			same(t, does, c < 0, "Holds", guardText(g), b)
			_, does, _ = guard.Entails(below(b.N, b.D), g)
			same(t, does, c <= 0, "Entails", b, guardText(g))
			whole, _ := num.Whole(b)
			does, _ = guard.Holds(op(api.GWhole), number(b.N, b.D))
			same(t, does, whole, "Holds of %", b)
			h, some, _ := guard.Can(and(g, not(below(b.N, b.D))))
			same(t, some, c < 0, "what is between", b, a)
			if some {
				same(t, h.Kind == api.Number && rat(b).Cmp(rat(h.Num)) <= 0 && rat(h.Num).Cmp(rat(a)) < 0, true, "what is between", b, a, h)
			}
		}
	}
	for seed := range uint64(60) {
		p := newPool(seed)
		l := p.list(1+p.r.IntN(5), 5)
		all, _ := guard.Regions(l)
		heads := map[string]api.Head{}
		for _, x := range all {
			heads[truthText(x.Truth)] = x.Least
		}
		for _, h := range candidates(l) {
			c, e := tree.CompareHeads(heads[region(l, h)], h)
			same(t, c <= 0 && e == api.OK, true, "the least head is least", guardTexts(l), headText(h))
		}
	}
}

// P3.8: guards obey the laws of not, and, or.
func TestLaws(t *testing.T) {
	all, none := op(api.GAll), not(op(api.GAll))
	for seed := range uint64(60) {
		p := newPool(seed)
		l := p.list(3, 3)
		a, b, c := l[0], l[1], l[2]
		for i, x := range [][2]api.Guard{
			{not(not(a)), a}, {and(a, b), and(b, a)}, {or(a, b), or(b, a)}, {and(a, and(b, c)), and(and(a, b), c)}, {or(a, or(b, c)), or(or(a, b), c)}, {and(a, or(b, c)), or(and(a, b), and(a, c))}, {or(a, and(b, c)), and(or(a, b), or(a, c))},
			{not(and(a, b)), or(not(a), not(b))}, {not(or(a, b)), and(not(a), not(b))}, {and(a, or(a, b)), a}, {or(a, and(a, b)), a}, {and(a, a), a}, {or(a, a), a}, {and(a, not(a)), none}, {or(a, not(a)), all}, {and(a, all), a}, {or(a, none), a}, {and(a, none), none}, {or(a, all), all},
		} {
			_, is, e := guard.Same(x[0], x[1])
			same(t, is, true, "law", i, guardTexts(x[:]))
			same(t, e, api.OK, "law", i, guardTexts(x[:]))
		}
		entails := func(a, b api.Guard) bool {
			_, does, e := guard.Entails(a, b)
			same(t, e, api.OK, "Entails", guardText(a), guardText(b))
			return does
		}
		same(t, entails(and(a, b), a) && entails(a, or(a, b)) && entails(none, a) && entails(a, all) && entails(a, a), true, "what is always entailed", guardTexts(l))
		same(t, entails(a, b), entails(not(b), not(a)), "the other way round", guardTexts(l))
		same(t, entails(a, b) && entails(b, c) && !entails(a, c), false, "one behind the other", guardTexts(l))
		_, is, _ := guard.Same(a, b)
		same(t, is, entails(a, b) && entails(b, a), "both ways", guardTexts(l))
		_, can, _ := guard.Can(and(a, not(b)))
		same(t, can, !entails(a, b), "Can and Entails", guardTexts(l))
		_, can, _ = guard.Can(a)
		same(t, can, !entails(a, none), "Can", guardText(a))
	}
}
