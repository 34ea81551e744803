package auto_test

import (
	"fmt"
	"slices"
	"testing"

	"withy/api"
	"withy/auto"
	"withy/guard"
)

// changed returns onlyA with a change.
func changed(change func(a *api.Auto)) api.Auto {
	a := clone(onlyA())
	change(&a)
	return a
}

// marked are guards with so many labels.
func marked(count int) []api.Guard {
	return append(guards("<>"), guards("a", "b", "c", "d", "e")[:count]...)
}

// wrong is an automaton, and its error.
type wrong struct {
	a api.Auto
	e api.Errno
}

// wrongAutomata are those with one error each, and with several of which the first one decides.
func wrongAutomata() []wrong {
	l := []wrong{{api.Auto{}, api.ErrForm}, {api.Auto{Next: onlyA().Next, Yes: onlyA().Yes}, api.ErrForm}}
	add := func(e api.Errno, changes ...func(a *api.Auto)) {
		for _, change := range changes {
			l = append(l, wrong{changed(change), e})
		}
	}
	bad, endless := api.Guard{Op: 99}, api.Guard{Op: api.GNot, Subs: make([]api.Guard, 1)}
	endless.Subs[0] = endless
	none := func(a *api.Auto) { a.Next = nil }
	// of the list of guards
	add(api.ErrForm, func(a *api.Auto) { a.Guards[1] = bad }, func(a *api.Auto) { a.Guards[1] = bad; none(a) }, func(a *api.Auto) { a.Guards[1] = api.Guard{Name: "a"} })
	add(api.ErrName, func(a *api.Auto) { a.Guards[1].Name = "A" }, func(a *api.Auto) { a.Guards = guards("*"); a.Guards[0] = api.Guard{Op: api.GLabel} }, func(a *api.Auto) { a.Guards = []api.Guard{{Op: api.GHas}, bad} })
	add(api.ErrMany, func(a *api.Auto) { a.Guards[1] = endless }, func(a *api.Auto) { a.Guards = slices.Repeat(guards("<>"), 13) }, func(a *api.Auto) { a.Guards = make([]api.Guard, 100000) })
	add(api.ErrLimit, func(a *api.Auto) { a.Guards = marked(5) }, func(a *api.Auto) { a.Guards = slices.Clone(marked(5)[1:]) }, func(a *api.Auto) { a.Guards = marked(5); none(a) })
	// of the first one
	add(api.ErrForm, func(a *api.Auto) { a.Guards[0] = guards("*")[0] }, func(a *api.Auto) { a.Guards = nil }, func(a *api.Auto) { a.Guards = []api.Guard{} }, func(a *api.Auto) { slices.Reverse(a.Guards) }, func(a *api.Auto) { a.Guards[0] = guards("!!<>")[0] }, func(a *api.Auto) { a.Guards = nil; none(a) })
	for _, first := range []string{"*", "#", "!#", "a", "!!<>", "(<>&<>)", "!<>"} { // tables as large as they have to be
		l = append(l, wrong{blank(append(guards(first), onlyA().Guards...), 2), api.ErrForm})
	}
	// of how many states and definitions there are
	add(api.ErrMany, none, func(a *api.Auto) { a.Next = [][][]int{} }, func(a *api.Auto) { a.Next, a.Yes = nil, nil }, func(a *api.Auto) { a.Next = make([][][]int, 41) }, func(a *api.Auto) { a.Next = make([][][]int, 1000000) })
	add(api.ErrMany, func(a *api.Auto) { a.Yes[0] = make([]bool, 13) }, func(a *api.Auto) { a.Yes = [][]bool{make([]bool, 13)} }, func(a *api.Auto) { a.Yes[0] = make([]bool, 100000); a.Next[0][0] = nil; a.Next[0][1][0] = 9 }, func(a *api.Auto) { *a = blank(a.Guards, 41) })
	// of the tables
	add(api.ErrForm, func(a *api.Auto) { a.Yes = nil }, func(a *api.Auto) { a.Yes = a.Yes[:2] }, func(a *api.Auto) { a.Yes = append(a.Yes, bools("0")) }, func(a *api.Auto) { a.Yes[1] = nil }, func(a *api.Auto) { a.Yes[0] = nil }, func(a *api.Auto) { a.Yes[2] = make([]bool, 13) }, func(a *api.Auto) { a.Next = make([][][]int, 40) })
	add(api.ErrForm, func(a *api.Auto) { a.Next[0] = nil }, func(a *api.Auto) { a.Next[2] = a.Next[2][:2] }, func(a *api.Auto) { a.Next[1] = append(a.Next[1], a.Next[1][0]) }, func(a *api.Auto) { a.Guards = guards("<>") }, func(a *api.Auto) { a.Guards = guards("<>", "a", "b") })
	add(api.ErrForm, func(a *api.Auto) { a.Next[2][0] = nil }, func(a *api.Auto) { a.Next[1][1] = append(a.Next[1][1], 0) }, func(a *api.Auto) { a.Next[0][0] = make([]int, 1000000) }, func(a *api.Auto) { a.Next[0][0][0] = -1; a.Next[2][2] = nil }, func(a *api.Auto) { a.Next[0][0][0] = 3; a.Yes[2] = nil })
	add(api.ErrRange, func(a *api.Auto) { a.Next[0][0][0] = -1 }, func(a *api.Auto) { a.Next[2][2][2] = 3 }, func(a *api.Auto) { a.Next[1][0][1] = 1 << 62 }, func(a *api.Auto) { a.Next[0][0][2] = -1 << 63 })
	return l
}

// rightAutomata have no error.
func rightAutomata() []api.Auto {
	l := []api.Auto{onlyA(), modulo(1), modulo(2), modulo(40), sized(0, 1, 3), blank(guards("<>"), 1), blank(guards("<>"), 40), blank(marked(4), 3), blank(append(marked(4), guards("@k", "#", "@l", "<1", `"x"`, "<>", "a")...), 2), blank(slices.Repeat(guards("<>"), 12), 1), blank(finest(), 2)}
	twelve := clone(onlyA())
	for s := range twelve.Yes {
		twelve.Yes[s] = bools("010011000111")
	}
	return append(l, twelve, changed(func(a *api.Auto) { a.Yes = make([][]bool, 3) }), changed(func(a *api.Auto) { a.Yes = [][]bool{{}, nil, {}} }))
}

// P7.1: Check.
func TestCheck(t *testing.T) {
	for i, a := range rightAutomata() {
		same(t, auto.Check(a), api.OK, "Check of a right one", i)
	}
	for i, x := range wrongAutomata() {
		same(t, auto.Check(x.a), x.e, "Check of a wrong one", i)
	}
	for seed := range uint64(200) {
		a := newMaker(seed).any(6)
		same(t, auto.Check(a), api.OK, "Check", a)
	}
}

// P7.1: Run and Is of the chapter's example.
func TestRun(t *testing.T) {
	for s, want := range map[string]int{"": 0, "a": 1, "a a": 1, "a a a": 1, "a b": 2, "b a": 2, "a{a}": 2, "a a{a}": 2, "7": 2, `a "x"`: 2, `a(k="v")`: 1, "b{a}": 2} {
		state, e := auto.Run(onlyA(), must(s))
		same(t, told(fmt.Sprint(state), e), fmt.Sprint(want), "Run", s)
		of, e := auto.Is(onlyA(), must(s), 0)
		same(t, told(fmt.Sprint(of), e), fmt.Sprint(want < 2), "Is", s)
	}
	deep, wide := must(""), must("")
	for i := range 400 {
		if i < 40 {
			deep = []api.Tree{{Head: api.Head{Label: "a"}, Kids: deep}}
		}
		wide = append(wide, api.Tree{Head: api.Head{Label: "a"}})
	}
	for n, f := range map[int][]api.Tree{1: wide, 2: deep} {
		state, e := auto.Run(onlyA(), f)
		same(t, told(fmt.Sprint(state), e), fmt.Sprint(n), "Run of a large forest")
	}
	state, e := auto.Run(modulo(7), wide)
	same(t, told(fmt.Sprint(state), e), "1", "Run of 400 modulo 7")
}

// The errors of Run and Is, in their order.
func TestRunErrors(t *testing.T) {
	many := slices.Repeat(must("a"), 401)
	for i, x := range []struct {
		a   api.Auto
		f   []api.Tree
		def int
		e   api.Errno
	}{
		{onlyA(), must("a"), 1, api.ErrAbsent}, {onlyA(), must("a"), -1, api.ErrAbsent}, {onlyA(), nil, 1 << 62, api.ErrAbsent}, {blank(guards("<>"), 1), nil, 0, api.ErrAbsent}, {modulo(3), nil, 3, api.ErrAbsent},
		{onlyA(), many, 1, api.ErrMany}, {onlyA(), []api.Tree{{}}, 1, api.ErrName}, {onlyA(), []api.Tree{{Head: api.Head{Kind: 9}}}, -1, api.ErrForm}, {api.Auto{}, many, 1, api.ErrForm}, {modulo(2), must("a"), 1, api.OK},
	} {
		of, e := auto.Is(x.a, x.f, x.def)
		same(t, e, x.e, "Is", i)
		same(t, of && e != api.OK, false, "Is with an error", i)
		state, e := auto.Run(x.a, x.f)
		if x.e == api.ErrAbsent {
			x.e = api.OK
		}
		same(t, e, x.e, "Run", i)
		same(t, state != 0 && e != api.OK, false, "Run with an error", i)
	}
	for i, x := range wrongAutomata() {
		of, e := auto.Is(x.a, many, 99)
		same(t, told(fmt.Sprint(of), e), failed(x.e)+"false", "Is", i)
		state, e := auto.Run(x.a, many)
		same(t, told(fmt.Sprint(state), e), failed(x.e)+"0", "Run", i)
	}
}

// others are heads, some of which are in one region.
func others() []api.Head {
	var l []api.Head
	for _, x := range must(`a b c a(k="1") b(k="1") b(k="2") c(k="",l="") c(l="2") 0 1 -1 1/2 -1/2 7/3 "" "x" "xy" "y"`) {
		l = append(l, x.Head)
	}
	return l
}

// random returns a forest of at most so many trees.
func (m maker) random(trees int) []api.Tree {
	heads := others()
	var f []api.Tree
	for left := m.IntN(trees + 1); left > 0; {
		x := api.Tree{Head: heads[m.IntN(len(heads))]}
		left--
		if x.Kind == api.Elem && m.IntN(2) == 0 {
			x.Kids = m.random(left)
			left -= size(x.Kids)
		}
		f = append(f, x)
	}
	return f
}

// P7.13 and P7.1: the state is found event by event, with a state for each element that is open.
func TestEvents(t *testing.T) {
	for seed := range uint64(200) {
		m := newMaker(seed)
		a := m.any(7)
		x := read(a)
		for range 10 {
			f := m.random(20)
			want := x.state(f)
			state, e := auto.Run(a, f)
			same(t, told(fmt.Sprint(state), e), fmt.Sprint(want), "Run", text(f), a)
			def := m.IntN(len(a.Yes[0]))
			of, e := auto.Is(a, f, def)
			same(t, told(fmt.Sprint(of), e), fmt.Sprint(a.Yes[want][def]), "Is", text(f), a)
		}
	}
}

// P7.10: what comes behind a forest, or around it, sees its state alone; of a head its region alone.
func TestBehind(t *testing.T) {
	swaps := 0
	for seed := range uint64(80) {
		m := newMaker(seed)
		a := m.any(5)
		x := read(a)
		byState := map[int][]api.Tree{}
		for range 30 {
			f, behind := m.random(8), m.random(4)
			state, _ := auto.Run(a, f)
			g, is := byState[state]
			byState[state] = f
			if !is {
				continue
			}
			swaps++
			around := func(f []api.Tree) []api.Tree {
				return append([]api.Tree{{Head: api.Head{Label: "b"}, Kids: append(slices.Clone(f), behind...)}}, behind...)
			}
			one, e := auto.Run(a, around(f))
			two, d := auto.Run(a, around(g))
			same(t, told(fmt.Sprint(one), e), told(fmt.Sprint(two), d), "what is around", text(f), text(g), a)
		}
		for n, h := range others() {
			for _, i := range others()[:n] {
				f := append(m.random(3), api.Tree{Head: h})
				g := append(slices.Clone(f[:len(f)-1]), api.Tree{Head: i})
				if x.region(h) == x.region(i) && m.IntN(4) == 0 {
					one, e := auto.Run(a, f)
					two, d := auto.Run(a, g)
					same(t, told(fmt.Sprint(one), e), told(fmt.Sprint(two), d), "heads of one region", text(f), text(g), a)
				}
			}
		}
	}
	same(t, swaps > 1000, true, "forests with the same state", swaps)
	// what is told apart by the guards is told apart by the automaton
	a := blank(append(marked(3), guards("@k", "#", "<1", `^"x"`)...), 40)
	regions, _ := guard.Regions(a.Guards)
	for r := range regions {
		a.Next[0][r] = slices.Repeat([]int{r}, 40)
	}
	for _, h := range others() {
		want, _ := guard.Which(a.Guards, h)
		state, e := auto.Run(a, []api.Tree{{Head: h}})
		same(t, told(fmt.Sprint(state), e), fmt.Sprint(want), "the region", h)
	}
}
