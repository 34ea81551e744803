package auto

import (
	"iter"
	"slices"

	"withy/api"
)

// Count returns how many forests of least heads with so many trees are of a definition.
func Count(a api.Auto, def, trees int) (int, api.Errno) {
	_, count, e := counted(a, def, trees)
	switch {
	case e != api.OK:
		return 0, e
	case count > api.MaxNum:
		return 0, api.ErrLimit
	}
	return count, api.OK
}

// List returns the forests of least heads with so many trees that are of a definition.
func List(a api.Auto, def, trees int) ([][]api.Tree, api.Errno) {
	c, count, e := counted(a, def, trees)
	switch {
	case e != api.OK:
		return nil, e
	case count > api.MaxListed:
		return nil, api.ErrLimit
	}
	var all [][]bush
	for state, yes := range c.Yes {
		if yes[def] {
			all = slices.AppendSeq(all, c.forests(trees, state))
		}
	}
	slices.SortFunc(all, compareLists)
	var l [][]api.Tree
	for _, f := range all {
		l = append(l, planted(f, c.ranks))
	}
	return l, api.OK
}

// enough stands for all counts that are above MaxNum.
const enough = api.MaxNum + 1

// census counts the forests of least heads of an automaton: for each number of trees, and each state, how many have that state.
type census struct {
	checked
	ranks  []rank
	to     [][]hop // the hops to each state
	counts [][]int
}

// counted returns the census for numbers of trees up to one, and how many forests with as many are of a definition.
func counted(a api.Auto, def, trees int) (c census, total int, e api.Errno) {
	of, e := checkAt(a, def)
	switch {
	case e != api.OK:
		return census{}, 0, e
	case trees < 0 || trees > api.MaxCount:
		return census{}, 0, api.ErrRange
	}
	c = of.census(trees)
	for state, yes := range c.Yes {
		if yes[def] {
			total += c.counts[trees][state]
		}
	}
	return c, total, api.OK
}

func (c checked) census(trees int) census {
	n := census{checked: c, ranks: c.ranked(), to: make([][]hop, len(c.Next))}
	for _, h := range c.allHops(n.ranks) {
		n.to[h.to] = append(n.to[h.to], h)
	}
	empty := make([]int, len(c.Next))
	empty[0] = 1
	n.counts = [][]int{empty}
	for more := range trees {
		row := make([]int, len(c.Next))
		for state := range row {
			row[state] = n.sum(more+1, state)
		}
		n.counts = append(n.counts, row)
	}
	return n
}

// sum returns how many forests with so many trees, of which there is one, have a state, by the counts of fewer trees.
func (c census) sum(trees, state int) int {
	total := 0
	for h, kids := range c.lasts(trees, state) {
		ways := min(c.counts[trees-1-kids][h.front]*c.counts[kids][h.kids], enough)
		total = min(total+ways*len(h.ranks), enough)
	}
	return total
}

// lasts yields the hops to a state, each with how many trees the kids of the last one of so many trees have, where there are such kids, and as many trees ahead of it as are left.
func (c census) lasts(trees, state int) iter.Seq2[hop, int] {
	return func(yield func(hop, int) bool) {
		for _, h := range c.to[state] {
			for kids := range trees {
				if h.leaf && kids > 0 {
					break
				}
				if c.counts[trees-1-kids][h.front] > 0 && c.counts[kids][h.kids] > 0 && !yield(h, kids) {
					return
				}
			}
		}
	}
}

// forests yields the forests of least heads with so many trees that have a state.
func (c census) forests(trees, state int) iter.Seq[[]bush] {
	return func(yield func([]bush) bool) {
		if trees == 0 {
			if state == 0 {
				yield(nil)
			}
			return
		}
		for h, size := range c.lasts(trees, state) {
			for front := range c.forests(trees-1-size, h.front) {
				for kids := range c.forests(size, h.kids) {
					for _, rank := range h.ranks {
						if !yield(append(front[:len(front):len(front)], bush{rank, kids})) {
							return
						}
					}
				}
			}
		}
	}
}
