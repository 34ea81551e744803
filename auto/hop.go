package auto

// hop is how forests come to be in the state `to`: by one tree more behind those in the state front, with kids in the state kids, and a head of one of these ranks, ascending. Hops by numbers and texts, which have no kids, are apart from those by elements.
type hop struct {
	front, kids, to int
	leaf            bool
	ranks           []int
}

// allHops returns the hops of an automaton.
func (c checked) allHops(ranks []rank) []hop {
	var l []hop
	for _, row := range filled(len(c.Next), func(front int) []hop { return c.hopsFrom(front, ranks) }) {
		l = append(l, row...)
	}
	return l
}

func (c checked) hopsFrom(front int, ranks []rank) []hop {
	l := c.hopsBy(front, 0, ranks, true)
	for kids := range c.Next {
		l = append(l, c.hopsBy(front, kids, ranks, false)...)
	}
	return l
}

func (c checked) hopsBy(front, kids int, ranks []rank, leaf bool) []hop {
	to := make([][]int, len(c.Next))
	for i, r := range ranks {
		if c.leaf(r.region) == leaf {
			next := c.Next[front][r.region][kids]
			to[next] = append(to[next], i)
		}
	}
	var l []hop
	for next, by := range to {
		if len(by) > 0 {
			l = append(l, hop{front, kids, next, leaf, by})
		}
	}
	return l
}
