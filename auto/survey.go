package auto

import (
	"withy/api"
	"withy/share"
)

// survey tells which states of an automaton are reached, in the order of their least forests, and these.
type survey struct {
	checked
	ranks []rank
	hops  []hop
	order []int
	woods map[int]wood
}

// survey finds the states that are reached. It goes from a forest to those with one tree more behind it, or around it, which are larger: so the least one of all that are offered is the least one of its state.
func (c checked) survey() survey {
	ranks := c.ranked()
	s := survey{checked: c, ranks: ranks, hops: c.allHops(ranks), woods: map[int]wood{}}
	l := newLeasts(len(c.Next), compareSprouts)
	l.offer(0, sprout{})
	for state, found := l.take(); found; state, found = l.take() {
		// None is deeper than MaxDeep: it is deeper by at most one than those of the states before, which are fewer than MaxStates.
		if l.kept[state].size > api.MaxTrees {
			panic(share.Beyond{})
		}
		s.order = append(s.order, state)
		s.woods[state] = l.kept[state].grown()
		s.grow(state, l.offer)
	}
	return s
}

// grow offers the forests that are made of the least ones of a state that was reached last, and of those before.
func (s survey) grow(state int, offer func(to int, x sprout)) {
	for _, h := range s.hops {
		front, isFront := s.woods[h.front]
		kids, isKids := s.woods[h.kids]
		if isFront && isKids && (h.front == state || h.kids == state) {
			offer(h.to, sprout{front.size + 1 + kids.size, front.trees, bush{h.ranks[0], kids.trees}})
		}
	}
}

// witness returns whether a state is reached, and its least forest.
func (s survey) witness(state int) api.Witness {
	w, found := s.woods[state]
	return api.Witness{Found: found, Forest: planted(w.trees, s.ranks)}
}

func (s survey) witnesses() []api.Witness {
	l := make([]api.Witness, len(s.Next))
	for state := range l {
		l[state] = s.witness(state)
	}
	return l
}

// first returns whether there is a forest of whose definitions something is true, and the least one.
func (s survey) first(isTrue func(yes []bool) bool) api.Witness {
	for _, state := range s.order {
		if isTrue(s.Yes[state]) {
			return s.witness(state)
		}
	}
	return api.Witness{}
}

// trimmed returns the trimmed automaton.
func (s survey) trimmed() checked {
	now := make([]int, len(s.Next))
	for i, state := range s.order {
		now[state] = i
	}
	return s.kept(s.order, now)
}
