package auto_test

import (
	"fmt"
	"slices"
	"testing"

	"withy/api"
	"withy/auto"
	"withy/guard"
)

// split returns an automaton that accepts the same as a, with more states, in another order, and with some that are not reached.
func (m maker) split(a api.Auto, more int) api.Auto {
	of := []int{0}
	for s := 1; s < len(a.Next); s++ {
		of = append(of, s)
	}
	for range more {
		of = append(of, m.IntN(len(a.Next)))
	}
	m.Shuffle(len(of)-1, func(i, k int) { of[i+1], of[k+1] = of[k+1], of[i+1] })
	copies := map[int][]int{}
	for i, s := range of {
		copies[s] = append(copies[s], i)
	}
	b := blank(a.Guards, len(of))
	for i, s := range of {
		b.Yes[i] = slices.Clone(a.Yes[s])
		for r := range b.Next[i] {
			for k := range of {
				to := copies[a.Next[s][r][of[k]]]
				b.Next[i][r][k] = to[m.IntN(len(to))]
			}
		}
	}
	return b
}

// P7.3: Trim and Min of the chapter's example, and others.
func TestTrimExamples(t *testing.T) {
	trimmed, e := auto.Trim(onlyA())
	same(t, told(plain(trimmed.Next), e), "[[[2 0 0] [2 2 2] [1 2 2]] [[2 0 0] [2 2 2] [1 2 2]] [[2 0 0] [2 2 2] [2 2 2]]]", "Trim")
	least, e := auto.Min(onlyA())
	same(t, told(tables(least), e), tables(trimmed), "Min")
	trimmed, e = auto.Trim(unreached())
	same(t, told(plain([]any{trimmed.Next, trimmed.Yes}), e), "[[[[1 0] [0 1]] [[0 0] [0 0]]] [[false true false] [false false true]]]", "Trim of what is not reached")
	// the states in another order: b, which was the last one, is less than what was ahead of it
	a := automaton(guards("<>", "b"), map[step]int{{0, 1, 0}: 3, {0, 2, 0}: 2, {3, 1, 0}: 1}, "00", "01", "10", "11", "00")
	trimmed, e = auto.Trim(a)
	same(t, told(plain(trimmed.Yes), e), "[[false false] [true true] [true false] [false false] [false true]]", "Trim orders states")
	// only what is told apart by kids
	same(t, len(least.Next), 3, "Min of onlyA")
	for _, x := range []struct {
		a      api.Auto
		states int
	}{{modulo(1), 1}, {modulo(3), 3}, {modulo(40), 40}, {blank(guards("<>"), 40), 1}, {unreached(), 2}, {sized(0, 1, 3, 7), 1}} {
		b, e := auto.Min(x.a)
		same(t, e, api.OK, "Min", x.a)
		same(t, len(b.Next), x.states, "states", x.a)
	}
}

// P7.3: Trim and Min are as the chapter says.
func TestTrim(t *testing.T) {
	fewer, merged := 0, 0
	for seed := range uint64(300) {
		m := newMaker(seed)
		a := m.any(6)
		if seed%3 == 0 {
			a = m.split(m.any(3), 3)
		}
		if seed%10 == 0 {
			for s := range a.Yes {
				a.Yes[s] = nil
			}
		}
		trimmed, e := auto.Trim(a)
		same(t, told(tables(trimmed), e), tables(read(a).trimmed()), "Trim", a)
		same(t, auto.Check(trimmed), api.OK, "the trimmed one", a)
		least, e := auto.Min(a)
		same(t, told(tables(least), e), tables(read(a).minimal()), "Min", a)
		same(t, auto.Check(least), api.OK, "the least one", a)
		again, e := auto.Trim(trimmed)
		same(t, told(tables(again), e), tables(trimmed), "Trim again", a)
		if len(trimmed.Next) < len(a.Next) {
			fewer++
		}
		if len(least.Next) < len(trimmed.Next) {
			merged++
		}
	}
	same(t, fewer > 50 && merged > 50, true, "states that are left out, and made one", fewer, merged)
}

// P7.6: the least automaton accepts the same, no two of its states are the same, and all automata that accept the same have the same one.
func TestLeastAutomaton(t *testing.T) {
	for seed := range uint64(150) {
		m := newMaker(seed)
		a := m.any(5)
		b := m.split(a, 1+m.IntN(8))
		one, e := auto.Min(a)
		two, d := auto.Min(b)
		same(t, told(tables(one), e), told(tables(two), d), "Min of automata that accept the same", a, b)
		x, y := read(a), read(one)
		for _, f := range newForests(x.heads()).upTo(2) {
			same(t, plain(y.Yes[y.state(f)]), plain(x.Yes[x.state(f)]), "what it accepts", text(f), a)
		}
		n := len(one.Next)
		same(t, len(y.apart()), n*n-n, "pairs that are told apart", a)
		again, e := auto.Min(one)
		same(t, told(tables(again), e), tables(one), "Min again", a)
		// another one with other forests has another one
		c := clone(a)
		for s := range c.Yes {
			c.Yes[s][0] = !c.Yes[s][0]
		}
		other, _ := auto.Min(c)
		same(t, tables(other) == tables(one), false, "Min of another one", a)
	}
}

// The errors of Trim and Min.
func TestTrimErrors(t *testing.T) {
	l := append(wrongAutomata(), wrong{sized(0, 1, 3, 7, 15, 31, 63, 127, 255, 511), api.ErrLimit})
	for i, x := range l {
		trimmed, e := auto.Trim(x.a)
		same(t, told(tables(trimmed), e), failed(x.e), "Trim", i)
		least, e := auto.Min(x.a)
		same(t, told(tables(least), e), failed(x.e), "Min", i)
	}
}

// P7.3 and P7.7: Join is as the chapter says, and says what both say.
func TestJoin(t *testing.T) {
	for seed := range uint64(150) {
		m := newMaker(seed)
		a, b := m.any(5), m.any(5)
		j, e := auto.Join(a, b)
		want := read(pairs(a, b)).trimmed()
		same(t, told(tables(j), e), tables(want), "Join", a, b)
		same(t, auto.Check(j), api.OK, "the joined one", a, b)
		x, y, z := read(a), read(b), read(j)
		for range 20 {
			f := m.random(12)
			both := append(slices.Clone(a.Yes[x.state(f)]), b.Yes[y.state(f)]...)
			same(t, plain(j.Yes[z.state(f)]), plain(both), "what both say", text(f), a, b)
		}
		for def := range a.Yes[0] {
			f := m.random(6)
			one, _ := auto.Is(a, f, def)
			two, _ := auto.Is(j, f, def)
			same(t, two, one, "Is", text(f), def, a, b)
		}
	}
}

// begun tells the empty forest from all others.
func begun() api.Auto { return automaton(guards("<>"), nil, "1", "0") }

// leaves has as many states as are asked for, two of which forests have: only numbers with kids lead to the others.
func leaves(states int) api.Auto {
	a := blank(guards("<>"), states)
	for s, rows := range a.Next {
		for k := range states {
			rows[0][k] = (s + k) % states
		}
		rows[0][0], rows[1] = 0, slices.Repeat([]int{1}, states)
	}
	return a
}

// P7.3: the guards, the states and the definitions of joined automata.
func TestJoinExamples(t *testing.T) {
	j, e := auto.Join(onlyA(), onlyA())
	same(t, fmt.Sprint(len(j.Next), len(j.Yes[0]), e), "3 2 0", "Join of onlyA and itself")
	for _, x := range []struct{ a, b, want []api.Guard }{
		{guards("<>", "a"), guards("<>", "b", "a"), guards("<>", "a", "b")}, {guards("<>", "a", "a", "<>"), guards("<>", "b", "b", "<>"), guards("<>", "a", "a", "<>", "b")}, {guards("<>", "!a"), guards("<>", "!b", "!!a", "!a"), guards("<>", "!a", "!b", "!!a")}, {guards("<>", `@k="1"`, "<1"), guards("<>", `@k="2"`, `@k="1"`, "<1/2", "<1"), guards("<>", `@k="1"`, "<1", `@k="2"`, "<1/2")}, {guards("<>"), guards("<>"), guards("<>")},
	} {
		j, e := auto.Join(blank(x.a, 2), blank(x.b, 3))
		same(t, told(plain(j.Guards), e), plain(x.want), "the guards")
		regions, _ := guard.Regions(x.want)
		same(t, fmt.Sprint(len(j.Next), len(j.Next[0])), fmt.Sprint(1, len(regions)), "the table")
	}
	// 5 and 8 have no common divisor: 40 pairs
	for _, x := range []struct {
		a, b   api.Auto
		states int
		e      api.Errno
	}{{modulo(5), modulo(8), 40, api.OK}, {modulo(4), modulo(8), 8, api.OK}, {modulo(40), modulo(20), 40, api.OK}, {modulo(6), modulo(7), 0, api.ErrLimit}, {modulo(3), modulo(14), 0, api.ErrLimit}, {modulo(40), modulo(39), 0, api.ErrLimit}, {modulo(39), begun(), 40, api.OK}, {modulo(40), begun(), 0, api.ErrLimit}, {leaves(40), begun(), 3, api.OK}, {leaves(40), leaves(39), 2, api.OK}, {blank(guards("<>"), 40), blank(guards("<>"), 40), 1, api.OK}} {
		j, e := auto.Join(x.a, x.b)
		same(t, fmt.Sprint(len(j.Next), e), fmt.Sprint(x.states, x.e), "states that are joined", len(x.a.Next), len(x.b.Next))
	}
}

// The errors of Join, in their order.
func TestJoinErrors(t *testing.T) {
	large, seven, five := sized(0, 1, 3, 7, 15, 31, 63, 127, 255, 511), clone(onlyA()), clone(onlyA())
	for s := range seven.Yes {
		seven.Yes[s], five.Yes[s] = make([]bool, 7), make([]bool, 5)
	}
	blankBy := func(defs int, l ...string) api.Auto {
		a := blank(guards(append([]string{"<>"}, l...)...), 1)
		a.Yes[0] = make([]bool, defs)
		return a
	}
	joins := []struct {
		a, b api.Auto
		e    api.Errno
	}{
		{seven, seven, api.ErrMany}, {seven, five, api.OK}, {five, seven, api.OK}, {blankBy(12), blankBy(1), api.ErrMany}, {blankBy(12), blankBy(0), api.OK}, {blankBy(0), blankBy(0), api.OK},
		{blankBy(1, "a", "b", "c"), blankBy(1, "d", "e"), api.ErrLimit}, {blankBy(12, "a", "b", "c"), blankBy(12, "d", "e"), api.ErrLimit}, {blankBy(1, "a", "b", "c"), blankBy(1, "d", "c"), api.OK},
		{blankBy(1, "*", "#", "$", "a", "b", "@k"), blankBy(1, "!*", "!#", "!$", "!a", "!b", "!@k"), api.ErrMany}, {blankBy(1, "*", "#", "$", "a", "b", "@k"), blankBy(1, "!*", "!#", "!$", "!a", "!b", "@k"), api.OK}, {blankBy(12, "*", "#", "$", "a", "b", "@k"), blankBy(12, "!*", "!#", "!$", "!a", "!b", "!@k"), api.ErrMany},
		{large, onlyA(), api.ErrLimit}, {onlyA(), large, api.ErrLimit}, {seven, with(with(large, is(0)), is(0)), api.ErrLimit}, {seven, with(with(with(with(with(large, is(0)), is(0)), is(0)), is(0)), is(0)), api.ErrMany},
	}
	for i, x := range joins {
		j, e := auto.Join(x.a, x.b)
		same(t, e, x.e, "Join", i)
		same(t, e == api.OK || tables(j) == "", true, "Join with an error", i)
	}
	for i, x := range wrongAutomata() {
		for _, y := range []wrong{{large, api.OK}, {api.Auto{}, api.ErrForm}, {changed(func(a *api.Auto) { a.Next[0][0][0] = 9 }), api.ErrRange}} {
			j, e := auto.Join(x.a, y.a)
			same(t, told(tables(j), e), failed(x.e), "Join of a wrong one", i)
			if y.e == api.OK {
				j, e = auto.Join(y.a, x.a)
				same(t, told(tables(j), e), failed(x.e), "Join with a wrong one", i)
			}
		}
	}
}
