package auto_test

import (
	"slices"
	"testing"

	"withy/api"
	"withy/auto"
	"withy/guard"
)

// equal is what Equal returns, as a text.
func equal(a api.Auto, i int, b api.Auto, k int) string {
	f, is, e := auto.Equal(a, i, b, k)
	switch {
	case is:
		return told("the same"+text(f), e)
	case e != api.OK:
		return told(text(f), e)
	}
	return "[" + text(f) + "]"
}

// P7.4: Equal of the chapter's example, and others.
func TestEqualExamples(t *testing.T) {
	b := with(onlyA(), not(is(0)))
	none := automaton(guards("<>"), nil, "0", "0")
	all := automaton(guards("<>", "#", "<1"), nil, "1", "1")
	for i, x := range []struct {
		a    api.Auto
		i    int
		b    api.Auto
		k    int
		want string
	}{
		{onlyA(), 0, b, 1, "[]"}, {onlyA(), 0, b, 0, "the same"}, {b, 1, b, 1, "the same"}, {b, 0, b, 1, "[]"}, {none, 0, all, 0, "[]"}, {none, 0, with(all, not(is(0))), 1, "the same"}, {onlyA(), 0, none, 0, "[]"}, {none, 0, onlyA(), 0, "[]"}, {onlyA(), 0, all, 0, "[b]"}, {all, 0, onlyA(), 0, "[b]"},
		{modulo(2), 0, modulo(3), 0, "[a a]"}, {modulo(2), 1, modulo(3), 1, "[a a a]"}, {modulo(5), 0, modulo(7), 0, "[a a a a a]"}, {modulo(2), 0, modulo(40), 0, "[a a]"}, {modulo(6), 0, modulo(7), 0, failed(api.ErrLimit)},
		{automaton(guards("<>", "#", "<0"), map[step]int{{0, 0, 0}: 0, {0, 2, 0}: 0, {0, 3, 0}: 0}, "1", "0"), 0, automaton(guards("<>", "$"), map[step]int{{0, 0, 0}: 0, {0, 2, 0}: 0}, "1", "0"), 0, "[0]"},
	} {
		same(t, equal(x.a, x.i, x.b, x.k), x.want, "Equal", i)
	}
}

// P7.4 and P7.11: what is equal accepts the same forests; what is not has a least forest that shows it, which one of both has.
func TestEqual(t *testing.T) {
	equals, apart := 0, 0
	for seed := range uint64(200) {
		m := newMaker(seed)
		a, b := m.any(4), m.any(4)
		switch {
		case seed%3 == 0: // the same forests in another way
			b = m.split(a, 2)
		case seed%3 == 1: // nearly the same forests
			b = m.split(a, 3)
			b.Yes[m.IntN(len(b.Yes))][0] = m.IntN(2) == 0
		}
		j := pairs(a, b)
		x, y, z := read(a), read(b), read(j)
		least := z.least()
		all := newForests(z.heads()).upTo(3)
		for i := range a.Yes[0] {
			for k := range b.Yes[0] {
				want := api.Witness{}
				for s, f := range least {
					if j.Yes[s][i] != j.Yes[s][len(a.Yes[0])+k] && (!want.Found || compare(f, want.Forest) < 0) {
						want = api.Witness{Found: true, Forest: f}
					}
				}
				f, is, e := auto.Equal(a, i, b, k)
				same(t, told(witness(api.Witness{Found: !is, Forest: f}), e), witness(want), "Equal", i, k, a, b)
				if is {
					equals++
				} else {
					apart++
					one, _ := auto.Is(a, f, i)
					two, _ := auto.Is(b, f, k)
					same(t, one != two, true, "the forest shows it", text(f), i, k, a, b)
				}
				for _, g := range all {
					if !is && compare(g, f) >= 0 {
						break
					}
					same(t, a.Yes[x.state(g)][i], b.Yes[y.state(g)][k], "no smaller one shows it", text(g), i, k, a, b)
				}
			}
		}
	}
	same(t, equals > 200 && apart > 200, true, "both ways", equals, apart)
}

// The errors of Equal, in their order.
func TestEqualErrors(t *testing.T) {
	large, seven := sized(0, 1, 3, 7, 15, 31, 63, 127, 255, 511), clone(onlyA())
	for s := range seven.Yes {
		seven.Yes[s] = make([]bool, 7)
	}
	five := func(l []api.Guard) api.Auto { return automaton(l, nil, "1") }
	bad := changed(func(a *api.Auto) { a.Next[0][0][0] = 9 })
	for i, x := range []struct {
		a    api.Auto
		i    int
		b    api.Auto
		k    int
		want api.Errno
	}{
		{onlyA(), 1, onlyA(), 0, api.ErrAbsent}, {onlyA(), 0, onlyA(), 1, api.ErrAbsent}, {onlyA(), -1, onlyA(), 0, api.ErrAbsent}, {onlyA(), 0, onlyA(), -1, api.ErrAbsent}, {onlyA(), 0, blank(guards("<>"), 1), 0, api.ErrAbsent}, {blank(guards("<>"), 1), 0, onlyA(), 0, api.ErrAbsent}, {onlyA(), 1 << 62, onlyA(), -1 << 63, api.ErrAbsent},
		{bad, 0, api.Auto{}, 0, api.ErrRange}, {api.Auto{}, 0, bad, 0, api.ErrForm}, {bad, 9, onlyA(), 9, api.ErrRange}, {onlyA(), 9, bad, 9, api.ErrRange},
		{seven, 0, seven, 0, api.ErrMany}, {seven, 7, seven, 0, api.ErrAbsent}, {seven, 0, seven, 7, api.ErrAbsent}, {five(marked(3)), 0, five(guards("<>", "d", "e")), 0, api.ErrLimit}, {five(marked(3)), 0, five(guards("<>", "d", "e")), 1, api.ErrAbsent}, {five(guards("<>", "*", "#", "$", "a", "b", "@k")), 0, five(guards("<>", "!*", "!#", "!$", "!a", "!b", "!@k")), 0, api.ErrMany},
		{large, 0, large, 0, api.ErrLimit}, {large, 0, onlyA(), 0, api.ErrLimit}, {onlyA(), 0, large, 0, api.ErrLimit}, {modulo(6), 0, modulo(7), 0, api.ErrLimit}, {modulo(6), 0, modulo(7), 3, api.ErrAbsent},
	} {
		same(t, equal(x.a, x.i, x.b, x.k), failed(x.want), "Equal", i)
	}
	for i, x := range wrongAutomata() {
		same(t, equal(x.a, 0, bad, 0), failed(x.e), "Equal of a wrong one", i)
		same(t, equal(onlyA(), 9, x.a, 0), failed(x.e), "Equal to a wrong one", i)
	}
}

// P7.4: what is told apart by the guards of one automaton alone.
func TestEqualRegions(t *testing.T) {
	for _, s := range []string{"a", "b", "@k", `@k="v"`, "#", "<0", "<1/2", "%", "$", `"x"`, `^"x"`, "!a", "(a|#)", "!<>", "!$"} {
		a := blank(append(guards("<>"), guards(s)...), 2)
		regions, _ := guard.Regions(a.Guards)
		for r, region := range regions {
			if !region.Truth[1] { // to the state 1, and there
				a.Next[0][r] = []int{1, 1}
			}
			a.Next[1][r] = []int{1, 1}
		}
		a.Yes = [][]bool{{true}, {false}}
		all := automaton(guards("<>"), nil, "1")
		h, _, _ := guard.Can(guards("!" + s)[0])
		want := "[" + text([]api.Tree{{Head: h}}) + "]"
		same(t, equal(a, 0, all, 0), want, "what the guard does not accept", s)
		same(t, equal(all, 0, a, 0), want, "what the guard does not accept", s)
		same(t, equal(a, 0, a, 0), "the same", "itself", s)
		same(t, slices.Equal(a.Yes[0], all.Yes[0]), true, "the empty forest", s)
	}
}
