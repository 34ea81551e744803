package guard_test

import (
	"math"
	"slices"
	"strings"
	"testing"

	"withy/api"
	"withy/guard"
)

type wrongGuard struct {
	api.Guard
	e api.Errno
}

// endless are guards that hold themselves, and one of few slices, but of very many guards.
func endless() []api.Guard {
	one := []api.Guard{{Op: api.GNot}}
	one[0].Subs = one
	two := []api.Guard{{Op: api.GAnd}, {Op: 99}}
	two[0].Subs, two[1].Subs = two, two
	wide := op(api.GAll)
	for range 60 {
		wide = or(wide, wide)
	}
	return []api.Guard{one[0], two[0], two[1], wide}
}

// wide is a guard of so many guards, the half of them beside each other; an even number begins with a GNot.
func wide(count int) api.Guard {
	g := label("a")
	for count -= 1; count > 1; count -= 2 {
		g = or(g, label("a"))
	}
	return nots(count, g)
}

// wrongGuards are guards with errors, in the order of the chapter where there are several.
func wrongGuards() []wrongGuard {
	long := strings.Repeat("x", api.MaxText+1)
	zero, one := api.Num{D: 1}, api.Num{N: 1, D: 1}
	bad := label("B")
	stray := op(20)
	l := []wrongGuard{
		{nots(24, label("a")), api.ErrMany}, {nots(24, stray), api.ErrMany}, {wide(25), api.ErrMany}, {wide(26), api.ErrMany}, {nots(100000, label("a")), api.ErrMany}, {api.Guard{Op: 99, Subs: make([]api.Guard, 24)}, api.ErrMany}, {api.Guard{Op: api.GOr, Subs: make([]api.Guard, 100000)}, api.ErrMany}, {and(bad, nots(22, bad)), api.ErrMany},
		{op(-1), api.ErrForm}, {op(14), api.ErrForm}, {op(math.MaxInt), api.ErrForm}, {op(math.MinInt), api.ErrForm}, {api.Guard{Op: 99, Subs: make([]api.Guard, 23)}, api.ErrForm},
		{api.Guard{Op: 14, Name: "B"}, api.ErrForm}, {api.Guard{Op: api.GLabel, Name: "B", Subs: []api.Guard{{}}}, api.ErrForm}, {api.Guard{Op: api.GLabel, Name: "B", Value: "\n"}, api.ErrForm}, {api.Guard{Op: api.GBelow, At: api.Num{N: 9999, D: 0}, Name: "a"}, api.ErrForm},
		{bad, api.ErrName}, {label(""), api.ErrName}, {label("abcdefghi"), api.ErrName}, {label("1a"), api.ErrName}, {label("a b"), api.ErrName}, {label("é"), api.ErrName}, {label("a\x00"), api.ErrName}, {has(""), api.ErrName}, {has("K"), api.ErrName}, {has("abcdefghi"), api.ErrName}, {valued("", ""), api.ErrName}, {valued("K", "\n"), api.ErrName}, {valued("abcdefghi", long), api.ErrName},
		{valued("k", "1234567890123"), api.ErrRange}, {valued("k", "\n"), api.ErrRange}, {valued("k", "\x7f"), api.ErrRange}, {valued("k", "é"), api.ErrRange}, {valued("k", "a\xff"), api.ErrRange}, {is(long), api.ErrRange}, {is("\x1f"), api.ErrRange}, {is("a\x00b"), api.ErrRange}, {starts(long), api.ErrRange}, {starts("\x7f"), api.ErrRange}, {starts("\xff"), api.ErrRange},
		{below(0, 0), api.ErrRange}, {below(1, 0), api.ErrRange}, {below(1, -2), api.ErrRange}, {below(2, 4), api.ErrForm}, {below(0, 2), api.ErrForm}, {below(2002, 2), api.ErrForm}, {below(2, 202), api.ErrForm}, {below(1001, 1), api.ErrRange}, {below(-1001, 1), api.ErrRange}, {below(1, 101), api.ErrRange}, {below(-1001, 101), api.ErrRange}, {below(api.MaxNum+1, 1), api.ErrRange}, {below(math.MinInt, math.MinInt), api.ErrRange}, {below(api.MaxNum, 1), api.ErrRange}, {below(1, api.MaxNum), api.ErrRange},
		{and(bad, stray), api.ErrName}, {and(stray, bad), api.ErrForm}, {or(label("a"), is("\n")), api.ErrRange}, {or(and(label("a"), bad), below(2, 4)), api.ErrName}, {or(below(2, 4), and(bad, bad)), api.ErrForm}, {not(not(stray)), api.ErrForm}, {and(not(is("\n")), bad), api.ErrRange}, {nots(23, bad), api.ErrName},
		{api.Guard{Op: api.GAnd, Subs: []api.Guard{bad}}, api.ErrForm}, {api.Guard{Op: api.GNot, Subs: []api.Guard{bad, bad}}, api.ErrForm}, {api.Guard{Op: api.GNot, Name: "a", Subs: []api.Guard{bad}}, api.ErrForm},
	}
	for _, g := range endless() {
		l = append(l, wrongGuard{g, api.ErrMany}, wrongGuard{and(bad, g), api.ErrMany})
	}
	// What a kind does not use.
	for o := range api.GOr + 1 {
		proper := proper(o)
		for i, change := range []func(g *api.Guard){
			func(g *api.Guard) { g.Name = "a" }, func(g *api.Guard) { g.Value = "a" }, func(g *api.Guard) { g.At = zero }, func(g *api.Guard) { g.At = one }, func(g *api.Guard) { g.At = api.Num{N: 1} },
			func(g *api.Guard) { g.Subs = append(g.Subs, op(api.GAll)) }, func(g *api.Guard) { g.Subs = make([]api.Guard, 3) },
		} {
			g := proper
			change(&g)
			used := []bool{g.Name != "" && proper.Name != "", g.Value != "" && proper.Value != "", o == api.GBelow, o == api.GBelow, o == api.GBelow, false, false}
			if !used[i] {
				l = append(l, wrongGuard{g, api.ErrForm})
			}
		}
		if len(proper.Subs) > 0 {
			fewer := proper
			fewer.Subs = fewer.Subs[1:]
			l = append(l, wrongGuard{fewer, api.ErrForm}, wrongGuard{op(o), api.ErrForm})
		}
	}
	return l
}

// proper is a guard of a kind that has all that it uses, and no error.
func proper(o api.GuardOp) api.Guard {
	switch o {
	case api.GLabel:
		return label("a")
	case api.GHas:
		return has("k")
	case api.GAttr:
		return valued("k", "v")
	case api.GBelow:
		return below(1, 2)
	case api.GIs:
		return is("a")
	case api.GStarts:
		return starts("a")
	case api.GNot:
		return not(label("a"))
	case api.GAnd:
		return and(label("a"), has("k"))
	case api.GOr:
		return or(label("a"), has("k"))
	}
	return op(o)
}

// P3.1: Check, of guards without errors, up to their bounds.
func TestCheck(t *testing.T) {
	for o := range api.GOr + 1 {
		same(t, guard.Check(proper(o)), api.OK, "Check", o)
	}
	full := strings.Repeat("~", api.MaxText)
	for i, g := range []api.Guard{
		nots(23, label("a")), wide(24), wide(23), label("abcdefgh"), label("z9z9z9z9"), has("k"), valued("k", ""), valued("abcdefgh", full[:api.MaxValue]), valued("k", " "), is(""), is(full), starts(""), starts(full), is(`"\`),
		below(0, 1), below(1000, 1), below(-1000, 1), below(1, 100), below(-1000, 99), below(999, 100),
		{Op: api.GAll, Subs: []api.Guard{}},
	} {
		same(t, guard.Check(g), api.OK, "Check", i)
		same(t, guard.CheckList([]api.Guard{g}), api.OK, "CheckList", i)
	}
	for seed := range uint64(200) {
		same(t, guard.Check(newPool(seed).guard(api.MaxGuards)), api.OK, "Check of a random guard", seed)
	}
}

// P3.1: Check, of guards with errors. P0.2: all functions that take a guard return its error, and nothing else.
func TestErrors(t *testing.T) {
	for i, x := range wrongGuards() {
		for k, g := range []api.Guard{x.Guard, not(x.Guard), and(label("a"), x.Guard), or(x.Guard, op(99))} {
			want := x.e
			if size := count(x.Guard); size < api.MaxGuards && size+k > api.MaxGuards {
				continue
			} else if size == api.MaxGuards && k > 0 {
				want = api.ErrMany
			}
			same(t, guard.Check(g), want, "Check", i, k)
			same(t, guard.CheckList([]api.Guard{g}), want, "CheckList", i, k)
			is, e := guard.Holds(g, api.Head{Kind: 9})
			same(t, e, want, "Holds", i, k)
			same(t, is, false, "Holds", i, k)
			_, e = guard.Print(g)
			same(t, e, want, "Print", i, k)
			_, _, e = guard.Can(g)
			same(t, e, want, "Can", i, k)
			_, e = guard.Simple(g)
			same(t, e, want, "Simple", i, k)
			_, _, e = guard.Entails(g, op(99))
			same(t, e, want, "Entails", i, k)
			_, _, e = guard.Same(label("a"), g)
			same(t, e, want, "Same", i, k)
		}
	}
}

// count is how many guards a guard has, but no more than one above the bound.
func count(g api.Guard) int {
	n := 0
	var add func(g api.Guard)
	add = func(g api.Guard) {
		n++
		for _, sub := range g.Subs {
			if n <= api.MaxGuards {
				add(sub)
			}
		}
	}
	add(g)
	return n
}

// P3.1: which bytes names and values can have.
func TestBytes(t *testing.T) {
	for i := range 256 {
		b := string([]byte{byte(i)})
		letter := strings.Contains("abcdefghijklmnopqrstuvwxyz", b)
		digit := strings.Contains("0123456789", b)
		first, later, inside := api.ErrName, api.ErrName, api.ErrRange
		if letter {
			first = api.OK
		}
		if letter || digit {
			later = api.OK
		}
		if i >= 32 && i <= 126 {
			inside = api.OK
		}
		for _, named := range []func(s string) api.Guard{label, has, func(s string) api.Guard { return valued(s, "") }} {
			same(t, guard.Check(named(b)), first, "first byte", i)
			same(t, guard.Check(named("abcdefg"+b)), later, "last byte", i)
		}
		for _, full := range []func(s string) api.Guard{is, starts, func(s string) api.Guard { return valued("k", s) }} {
			same(t, guard.Check(full(b)), inside, "byte", i)
			same(t, guard.Check(full("12345678901"+b)), inside, "last byte", i)
		}
	}
}

// P3.1: CheckList.
func TestCheckList(t *testing.T) {
	a := label("a")
	for i, x := range []struct {
		l []api.Guard
		e api.Errno
	}{
		{nil, api.OK}, {[]api.Guard{}, api.OK}, {slices.Repeat([]api.Guard{a}, 12), api.OK}, {slices.Repeat([]api.Guard{wide(24)}, 12), api.OK},
		{slices.Repeat([]api.Guard{a}, 13), api.ErrMany}, {slices.Repeat([]api.Guard{label("B")}, 13), api.ErrMany}, {make([]api.Guard, 100000), api.ErrMany},
		{[]api.Guard{a, label("B"), op(99)}, api.ErrName}, {[]api.Guard{op(99), label("B")}, api.ErrForm}, {[]api.Guard{a, nots(24, a), label("B")}, api.ErrMany}, {append(slices.Repeat([]api.Guard{a}, 11), is("\n")), api.ErrRange},
		{append(mustAll(t, "(a|b)", "c", "d", "e"), op(99)), api.ErrForm},
	} {
		same(t, guard.CheckList(x.l), x.e, "CheckList", i)
	}
	for _, x := range []struct {
		texts []string
		e     api.Errno
	}{
		{[]string{"a", "b", "c", "d", "(a|(b&!c))", "@e", `@f="g"`}, api.OK}, {[]string{"a", "b", "c", "d", "e"}, api.ErrLimit}, {[]string{"(((a|b)|(c|d))&!!e)"}, api.ErrLimit}, {[]string{"!(a|b)", "(!c&!!d)", "%", "(#|!e)"}, api.ErrLimit},
		{[]string{"@a", "@b", "@c", `@d="x"`, "@d", `@a="y"`, "e"}, api.OK}, {[]string{"@a", "@b", "@c", `@d="x"`, "@e"}, api.ErrLimit}, {[]string{`@a=""`, `@b=""`, `@c=""`, `@d=""`, `@e=""`}, api.ErrLimit}, {[]string{"((@a|@b)|(@c|@d))", `!@e=""`}, api.ErrLimit},
		{[]string{`@a=""`, `@a="1"`, `@a="2"`, `@a="3"`, `@b="4"`, `@b="5"`, `@b="6"`, `@b="7"`, `"8"`}, api.OK}, {[]string{`@a=""`, `@a="1"`, `@a="2"`, `@a="3"`, `@a="4"`}, api.ErrLimit}, {[]string{`@b="1"`, `(@a=""|(@a="1"|(@a="2"|(@a="3"|@a="4"))))`}, api.ErrLimit},
		{[]string{"<1", "<2", "<1/2", "<-1", "!<1", "<2"}, api.OK}, {[]string{"<1", "<2", "<1/2", "<-1", "<0"}, api.ErrLimit}, {[]string{"((<1|<2)&(<1/2|(<-1|!<0)))"}, api.ErrLimit},
		{[]string{`"a"`, `^"a"`, `"b"`, `^"c"`, `""`, `@a="d"`}, api.OK}, {[]string{`"a"`, `^"b"`, `"c"`, `^"d"`, `^""`}, api.ErrLimit}, {[]string{`("a"|(^"b"|("c"|(^"d"|"e"))))`}, api.ErrLimit},
	} {
		l := mustAll(t, x.texts...)
		same(t, guard.CheckList(l), x.e, "CheckList", x.texts)
		_, e := guard.Regions(l)
		same(t, e, x.e, "Regions", x.texts)
		i, e := guard.Which(l, elem("q"))
		same(t, e, x.e, "Which", x.texts)
		same(t, i > 0 && e != api.OK, false, "Which", x.texts)
		if len(l) > 1 {
			_, _, e = guard.Entails(l[0], joined(l[1:]))
			same(t, e, x.e, "Entails", x.texts)
			_, _, e = guard.Same(joined(l[1:]), l[0])
			same(t, e, x.e, "Same", x.texts)
			continue
		}
		same(t, guard.Check(l[0]), api.OK, "Check", x.texts)
		_, _, e = guard.Can(l[0])
		same(t, e, x.e, "Can", x.texts)
		_, e = guard.Simple(l[0])
		same(t, e, x.e, "Simple", x.texts)
		_, e = guard.Holds(l[0], elem("q"))
		same(t, e, api.OK, "Holds asks for the error of the guard alone", x.texts)
		s, e := guard.Print(l[0])
		same(t, s, x.texts[0], "Print asks for the error of the guard alone")
		same(t, e, api.OK, "Print", x.texts)
	}
}

// joined is one guard of several.
func joined(l []api.Guard) api.Guard {
	g := l[0]
	for _, x := range l[1:] {
		g = and(g, x)
	}
	return g
}

// P3.1: Holds.
func TestHolds(t *testing.T) {
	for s, x := range map[string][2][]string{
		"*":                           {{"a", "a(k=\"\")", "1/2", `""`}, nil},
		"<>":                          {{"a", `z9(k="1")`}, {"1", `""`, `"a"`}},
		"#":                           {{"0", "-1/2"}, {"a", `"1"`, `""`}},
		"$":                           {{`""`, `"a"`}, {"a", "0"}},
		"a":                           {{"a", `a(k="")`}, {"b", "ab", "1", `"a"`}},
		"@k":                          {{`a(k="")`, `b(j="",k="1")`, `a(a="",b="",k="")`}, {"a", "k", `a(j="k")`, `a(kk="")`, "1", `"k"`}},
		`@k="1"`:                      {{`a(k="1")`, `a(j="2",k="1")`}, {`a(k="")`, `a(j="1")`, `a(j="1",k="2")`, "a", "1", `"1"`}},
		`@k=""`:                       {{`a(k="")`}, {"a", `a(k=" ")`, `a(j="")`, `""`}},
		"<1/2":                        {{"0", "1/3", "-7", "499999999/999999999"}, {"1/2", "2", "500000000/999999999", "a", `"0"`, `""`}},
		"<-5/2":                       {{"-3", "-1000000000"}, {"-5/2", "-2", "0"}},
		"<0":                          {{"-1/1000000000"}, {"0", "a", `""`}},
		"<1":                          {{"0"}, {"a", `""`, "1"}},
		"%":                           {{"0", "-3", "1000000000"}, {"1/2", "-5/3", "a", `"1"`}},
		`"a"`:                         {{`"a"`}, {`""`, `"ab"`, `"A"`, "a"}},
		`""`:                          {{`""`}, {`" "`, "a", "0"}},
		`^"ab"`:                       {{`"ab"`, `"abc"`}, {`"a"`, `"bab"`, `""`, "ab"}},
		`^""`:                         {{`""`, `"x"`}, {"a", "0"}},
		"!a":                          {{"b", "1", `"a"`}, {"a"}},
		"(a&@k)":                      {{`a(k="")`}, {"a", `b(k="")`, "0"}},
		"(a|@k)":                      {{`a(k="")`, "a", `b(k="")`}, {"b", "0"}},
		"(a|<1/2)":                    {{`a(k="")`, "0"}, {"1/2", "b", `"a"`}},
		`!(<0&(%|$))`:                 {{"1", "-1/2", `"x"`, "a"}, {"-1", "-7"}},
		`((a&!@k)|(<2&!%))`:           {{"a", "1/2"}, {`a(k="")`, "1", "5/2"}},
		strings.Repeat("!", 23) + "a": {{"b", "1"}, {"a"}},
	} {
		g := must(t, s)
		for i, want := range []bool{true, false} {
			for _, h := range x[i] {
				does, e := guard.Holds(g, mustHead(t, h))
				same(t, does, want, "Holds", s, h)
				same(t, e, api.OK, "Holds", s, h)
			}
		}
	}
	for _, x := range []struct {
		h api.Head
		e api.Errno
	}{{api.Head{}, api.ErrName}, {api.Head{Kind: 7}, api.ErrForm}, {number(2, 4), api.ErrForm}, {number(1, 0), api.ErrRange}, {text("\n"), api.ErrRange}, {elem("a", make([]api.Attr, 4)...), api.ErrMany}, {elem("a", api.Attr{Name: "b"}, api.Attr{Name: "a"}), api.ErrOrder}} {
		does, e := guard.Holds(op(api.GAll), x.h)
		same(t, does, false, "Holds", x.h)
		same(t, e, x.e, "Holds", x.h)
		at, e := guard.Which(mustAll(t, "a"), x.h)
		same(t, at, 0, "Which", x.h)
		same(t, e, x.e, "Which", x.h)
		_, e = guard.Which([]api.Guard{op(99)}, x.h)
		same(t, e, api.ErrForm, "Which", x.h)
		_, e = guard.Which(mustAll(t, "a", "b", "c", "d", "e"), x.h)
		same(t, e, api.ErrLimit, "Which", x.h)
	}
	for seed := range uint64(300) {
		p := newPool(seed)
		g := p.guard(api.MaxGuards)
		for range 20 {
			h := p.head()
			does, e := guard.Holds(g, h)
			same(t, does, accepts(g, h), "Holds", guardText(g), headText(h))
			same(t, e, api.OK, "Holds", guardText(g), headText(h))
		}
	}
}
