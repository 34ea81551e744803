package auto

import "slices"

// merged returns the automaton in which states that are the same are one, the first of them.
func (c checked) merged() checked {
	first := c.classes()
	var states []int
	now := make([]int, len(first))
	for state, f := range first {
		if f == state {
			now[state] = len(states)
			states = append(states, state)
		}
		now[state] = now[f]
	}
	return c.kept(states, now)
}

// classes returns, for each state of a trimmed automaton, the first one that is the same.
func (c checked) classes() []int {
	first := firsts(len(c.Yes), func(s, t int) bool { return slices.Equal(c.Yes[s], c.Yes[t]) })
refining:
	for {
		finer := firsts(len(first), func(s, t int) bool { return first[s] == first[t] && c.alike(s, t, first) })
		for state := range finer {
			if finer[state] != first[state] {
				first = finer
				continue refining
			}
		}
		break refining
	}
	return first
}

// firsts returns, for each of so many states, the first one that is the same.
func firsts(count int, same func(s, t int) bool) []int {
	var l []int
	for s := range count {
		first := 0
		for first < s && !same(s, first) {
			first++
		}
		l = append(l, first)
	}
	return l
}

// alike is whether what one tree more behind two states, or an element around them, leads to is in the same classes.
func (c checked) alike(s, t int, class []int) bool {
	for state := range c.Next {
		for region := range c.regions {
			if class[c.Next[s][region][state]] != class[c.Next[t][region][state]] {
				return false
			}
			if !c.leaf(region) && class[c.Next[state][region][s]] != class[c.Next[state][region][t]] {
				return false
			}
		}
	}
	return true
}
