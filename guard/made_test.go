package guard_test

import (
	"slices"
	"testing"

	"withy/api"
	"withy/guard"
)

// P3.4: Cell. P3.10: a cell accepts what is in its region.
func TestCell(t *testing.T) {
	l := mustAll(t, "a", "@k")
	for i, x := range []struct {
		l      []api.Guard
		region int
		want   string
		e      api.Errno
	}{
		{l, 0, "(!a&!@k)", api.OK}, {l, 1, "(!a&@k)", api.OK}, {l, 2, "(a&!@k)", api.OK}, {l, 3, "(a&@k)", api.OK}, {l, 4, "", api.ErrAbsent}, {l, -1, "", api.ErrAbsent}, {l, 1 << 62, "", api.ErrAbsent}, {l, -1 << 63, "", api.ErrAbsent},
		{nil, 0, "", api.ErrEmpty}, {[]api.Guard{}, 0, "", api.ErrEmpty}, {nil, 1, "", api.ErrAbsent}, {nil, -1, "", api.ErrAbsent},
		{mustAll(t, "b"), 0, "!b", api.OK}, {mustAll(t, "b"), 1, "b", api.OK}, {mustAll(t, "!b"), 0, "!!b", api.OK}, {mustAll(t, "*"), 0, "*", api.OK}, {mustAll(t, "*"), 1, "", api.ErrAbsent}, {mustAll(t, "!*"), 0, "!!*", api.OK},
		{mustAll(t, "a", "a", "!a"), 0, "((!a&!a)&!a)", api.OK}, {mustAll(t, "a", "a", "!a"), 1, "((a&a)&!!a)", api.OK}, {mustAll(t, "a", "a", "!a"), 2, "", api.ErrAbsent},
		{mustAll(t, "a", "b", "c"), 1, "((!a&!b)&c)", api.OK}, {mustAll(t, "a", "b", "c", "@k"), 7, "(((a&!b)&!c)&@k)", api.OK},
		{append(mustAll(t, "a", "b", "c", "d", "e"), l...), 99, "", api.ErrLimit}, {[]api.Guard{op(99)}, 99, "", api.ErrForm}, {make([]api.Guard, 13), -1, "", api.ErrMany},
		{mustAll(t, "(((a|b)|(a|c))&((a|b)|(a|c)))", "(((a|b)|(a|c))&a)"), 0, "", api.ErrLimit},
		{[]api.Guard{wide(24)}, 1, guardText(wide(24)), api.OK}, {[]api.Guard{wide(24)}, 0, "", api.ErrLimit}, {[]api.Guard{wide(23)}, 0, "!" + guardText(wide(23)), api.OK}, {[]api.Guard{wide(23)}, 2, "", api.ErrAbsent},
		{[]api.Guard{wide(21), label("b")}, 2, "(" + guardText(wide(21)) + "&!b)", api.OK}, {[]api.Guard{wide(21), label("b")}, 0, "", api.ErrLimit}, {[]api.Guard{wide(21), label("b")}, 1, "(!" + guardText(wide(21)) + "&b)", api.OK}, {[]api.Guard{wide(22), label("b")}, 2, "(" + guardText(wide(22)) + "&b)", api.OK}, {[]api.Guard{wide(22), label("b")}, 1, "", api.ErrLimit},
	} {
		g, e := guard.Cell(x.l, x.region)
		same(t, e, x.e, "Cell", i)
		switch {
		case e != api.OK:
			same(t, g.Op == 0 && g.Name == "" && len(g.Subs) == 0, true, "Cell with an error", i)
		case x.want != "":
			same(t, guardText(g), x.want, "Cell", i)
		}
	}
	for seed := range uint64(120) {
		p := newPool(seed)
		l := p.list(1+p.r.IntN(5), 6)
		all, _ := guard.Regions(l)
		for i, x := range all {
			want := cell(l, truthText(x.Truth))
			g, e := guard.Cell(l, i)
			if len(flat(want)) > api.MaxGuards {
				same(t, e, api.ErrLimit, "Cell", guardTexts(l), i)
				continue
			}
			same(t, e, api.OK, "Cell", guardTexts(l), i)
			same(t, guardText(g), guardText(want), "Cell", guardTexts(l), i)
			for _, h := range append([]api.Head{p.head(), p.head(), p.head()}, all[p.r.IntN(len(all))].Least) {
				at, _ := guard.Which(l, h)
				does, _ := guard.Holds(g, h)
				same(t, does, at == i, "a cell accepts what is in its region", guardTexts(l), i, headText(h))
			}
		}
		_, e := guard.Cell(l, len(all))
		same(t, e, api.ErrAbsent, "Cell behind the last region", guardTexts(l))
	}
}

// cell is the cell of guards of which a text of 0 and 1 tells what is true.
func cell(l []api.Guard, truth string) api.Guard {
	last := len(l) - 1
	g := l[last]
	if truth[last] == '0' {
		g = not(g)
	}
	if last == 0 {
		return g
	}
	return and(cell(l[:last], truth[:last]), g)
}

// P3.4: Simple.
func TestSimple(t *testing.T) {
	for s, want := range map[string]string{
		"*": "*", "!*": "!*", "<>": "<>", "a": "a", "!a": "!a", "!!a": "a", "!!!a": "!a", "!!!!a": "a", "!!*": "*", "!!!*": "!*", `^""`: `^""`, "<1": "<1",
		"!!(a&<>)": "a", "(a&b)": "!*", "(a|!a)": "*", "(<1&<2)": "<1", "(<2&<1)": "<1", "(<1|<2)": "<2", "(<2|<1)": "<2", "((a&@k)|a)": "a", "(a&(b|a))": "a", "(a|b)": "(a|b)", "!(a&#)": "*", `(@k&!@k="")`: `(@k&!@k="")`, "(a&a)": "a", "(a|a)": "a",
		`($|^"")`: `^""`, `(^""|$)`: "$", `($&^"")`: "$", `(^""&$)`: `^""`, // the one that is named first
		"(<>|(#|$))": "*", "!((a|b)&!(a|b))": "*", "((a&b)|c)": "c", "(c|(a&b))": "c", "(!(a&b)&c)": "c", "!(!a&!b)": "!(!a&!b)", "(!!a|!!b)": "(a|b)", "((@a&@b)&(@c&@d))": "!*", "(%&(#&!<0))": "(%&(#&!<0))", "(!a&(!!b|<1))": "(b|<1)", "(<>&!<>)": "!*", "!(#|(<>|$))": "!*", `("a"&^"a")`: `"a"`, `("a"|^"a")`: `^"a"`,
	} {
		g, e := guard.Simple(must(t, s))
		same(t, e, api.OK, "Simple", s)
		same(t, guardText(g), want, "Simple", s)
	}
	for seed := range uint64(300) {
		p := newPool(seed)
		g := p.guard(1 + p.r.IntN(api.MaxGuards))
		heads := candidates([]api.Guard{g})
		s, e := guard.Simple(g)
		same(t, e, api.OK, "Simple", guardText(g))
		same(t, guardText(s), guardText(simple(g, heads)), "Simple", guardText(g))
	}
}

// simple is the simple guard of g; the heads are all its candidates.
func simple(g api.Guard, heads []api.Head) api.Guard {
	var subs []api.Guard
	for _, sub := range g.Subs {
		subs = append(subs, simple(sub, heads))
	}
	g.Subs = subs
	no, yes := not(op(api.GAll)), op(api.GAll)
	entails := func(a, b api.Guard) bool {
		return !slices.ContainsFunc(heads, func(h api.Head) bool { return accepts(a, h) && !accepts(b, h) })
	}
	if entails(g, no) {
		return no
	}
	if entails(yes, g) {
		return yes
	}
	if g.Op == api.GNot && subs[0].Op == api.GNot {
		return subs[0].Subs[0]
	}
	if g.Op == api.GAnd || g.Op == api.GOr {
		kept := subs // the first one in its first place, if the other one is entailed
		if g.Op == api.GOr {
			kept = []api.Guard{subs[1], subs[0]}
		}
		if entails(subs[0], subs[1]) {
			return kept[0]
		}
		if entails(subs[1], subs[0]) {
			return kept[1]
		}
	}
	return g
}

// P3.11: a simple guard accepts the same, has no more guards, and is simple.
func TestSimpler(t *testing.T) {
	for seed := range uint64(300) {
		p := newPool(seed + 1000)
		g := p.guard(1 + p.r.IntN(12))
		s, _ := guard.Simple(g)
		_, is, e := guard.Same(g, s)
		same(t, is, true, "a simple guard accepts the same", guardText(g))
		same(t, e, api.OK, "Same", guardText(g))
		same(t, len(flat(s)) <= len(flat(g)), true, "a simple guard has no more guards", guardText(g))
		again, e := guard.Simple(s)
		same(t, guardText(again), guardText(s), "a simple guard is simple", guardText(g))
		same(t, e, api.OK, "Simple", guardText(s))
		for range 10 {
			h := p.head()
			same(t, accepts(s, h), accepts(g, h), "a simple guard accepts the same", guardText(g), headText(h))
		}
	}
}
