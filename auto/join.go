package auto

import (
	"withy/api"
	"withy/share"
)

// pair is a state of one automaton, and a state of another one.
type pair struct{ one, two int }

// twins are two automata, the regions of the guards of both, in which regions of each these are, and the pairs of states that forests have in both.
type twins struct {
	one, two checked
	guards   []api.Guard
	heads
	inOne, inTwo []int
	pairs        []pair
	found        map[pair]int
}

// join returns the survey of the automaton whose states are the pairs of states that some forest has in both.
func join(one, two checked) (survey, api.Errno) {
	guards := one.Guards
	for _, g := range two.Guards {
		guards = share.Added(guards, g, share.SameGuard)
	}
	h, e := newHeads(guards)
	switch {
	case e != api.OK:
		return survey{}, e
	case one.defs()+two.defs() > api.MaxDefs:
		return survey{}, api.ErrMany
	}
	t := &twins{one: one, two: two, guards: guards, heads: h, found: map[pair]int{}}
	t.inOne, t.inTwo = one.regionsIn(h, guards), two.regionsIn(h, guards)
	return share.Bounded(func() survey {
		t.search()
		return t.joined().survey()
	})
}

// search finds the pairs that forests have, the first one being that of the empty forest.
func (t *twins) search() {
	t.add(pair{})
	for i := 0; i < len(t.pairs); i++ {
		for k := range i + 1 {
			t.addNext(t.pairs[i], t.pairs[k])
			t.addNext(t.pairs[k], t.pairs[i])
		}
	}
}

// addNext adds what one tree more, with kids in the states of a pair, leads to.
func (t *twins) addNext(front, kids pair) {
	for r := range t.regions {
		if kids == (pair{}) || !t.leaf(r) {
			t.add(t.next(front, r, kids))
		}
	}
}

func (t *twins) next(front pair, r int, kids pair) pair {
	return pair{t.one.Next[front.one][t.inOne[r]][kids.one], t.two.Next[front.two][t.inTwo[r]][kids.two]}
}

func (t *twins) add(p pair) {
	if _, is := t.found[p]; is {
		return
	}
	if len(t.pairs) == api.MaxStates {
		panic(share.Beyond{})
	}
	t.found[p] = len(t.pairs)
	t.pairs = append(t.pairs, p)
}

// joined returns the automaton of the pairs that were found.
func (t *twins) joined() checked {
	next := func(state, region, kids int) int { return t.found[t.next(t.pairs[state], region, t.pairs[kids])] }
	yes := func(p pair) []bool { return append(copied(t.one.Yes[p.one]), t.two.Yes[p.two]...) }
	return checked{
		api.Auto{Guards: t.guards, Next: t.table(len(t.pairs), next), Yes: share.Mapped(t.pairs, yes)},
		t.heads,
	}
}
