package auto_test

import (
	"slices"

	"withy/api"
	"withy/event"
	"withy/guard"
	"withy/tree"
)

// The tests hold what the functions return against another reading of the chapter, which shares no code with the package: states are found event by event, least forests are improved until none is less, or looked up among all forests, states are told apart pair by pair, and joined automata have all pairs of states before they are trimmed.

// reading is an automaton that is read anew.
type reading struct {
	api.Auto
	regions []api.Region
	known   map[string]int // the regions of heads
}

func read(a api.Auto) reading {
	regions, _ := guard.Regions(a.Guards)
	return reading{a, regions, map[string]int{}}
}

func (x reading) region(h api.Head) int {
	key := plain(h)
	r, is := x.known[key]
	if !is {
		r, _ = guard.Which(x.Guards, h)
		x.known[key] = r
	}
	return r
}

func (x reading) leaf(region int) bool { return x.regions[region].Least.Kind != api.Elem }

// open is a list of trees that goes on: its state, and the region of the element around it.
type open struct{ state, around int }

// state finds the state of a forest event by event, with a state for each element that is open.
func (x reading) state(f []api.Tree) int {
	events, e := event.Of(f)
	if e != api.OK {
		panic(e)
	}
	lists := []open{{}}
	for _, v := range events {
		last := len(lists) - 1
		switch v.Kind {
		case api.EvOpen:
			lists = append(lists, open{0, x.region(v.Head)})
		case api.EvLeaf:
			lists[last].state = x.Next[lists[last].state][x.region(v.Head)][0]
		case api.EvClose:
			kids := lists[last]
			lists = lists[:last]
			lists[last-1].state = x.Next[lists[last-1].state][kids.around][kids.state]
		}
	}
	return lists[0].state
}

// heads are the least heads of the regions.
func (x reading) heads() []api.Head {
	var l []api.Head
	for _, r := range x.regions {
		l = append(l, r.Least)
	}
	return l
}

// size counts trees also where they are too many for a forest.
func size(f []api.Tree) int {
	n := len(f)
	for _, t := range f {
		n += size(t.Kids)
	}
	return n
}

// compare compares forests by size, and then by tree.Compare.
func compare(f, g []api.Tree) int {
	if m, n := size(f), size(g); m != n {
		return m - n
	}
	c, e := tree.Compare(f, g)
	if e != api.OK {
		panic(e)
	}
	return c
}

// least improves the forests of states until none is less. It leaves out those with more than MaxTrees trees.
func (x reading) least() map[int][]api.Tree {
	all := map[int][]api.Tree{0: nil}
	for changed := true; changed; {
		changed = false
		for s := range x.Next {
			for r := range x.regions {
				for k := range x.Next {
					front, isFront := all[s]
					kids, isKids := all[k]
					if !isFront || !isKids || x.leaf(r) && k != 0 {
						continue
					}
					f := append(slices.Clone(front), api.Tree{Head: x.regions[r].Least, Kids: kids})
					to := x.Next[s][r][k]
					before, is := all[to]
					if !is && size(f) <= api.MaxTrees || is && (size(f) < size(before) || size(f) == size(before) && compare(f, before) < 0) {
						all[to], changed = f, true
					}
				}
			}
		}
	}
	return all
}

// inOrder are the states that are reached, in the order of their least forests.
func (x reading) inOrder() []int {
	least := x.least()
	var l []int
	for s := range x.Next {
		if _, is := least[s]; is {
			l = append(l, s)
		}
	}
	slices.SortFunc(l, func(s, t int) int { return compare(least[s], least[t]) })
	return l
}

// some returns the automaton of some states, of which each other one is one by now.
func (x reading) some(states []int, now func(s int) int) api.Auto {
	a := blank(x.Guards, len(states))
	for i, s := range states {
		a.Yes[i] = x.Yes[s]
		for r := range x.regions {
			for m, k := range states {
				if !x.leaf(r) || m == 0 {
					a.Next[i][r][m] = now(x.Next[s][r][k])
				}
			}
		}
	}
	return a
}

func (x reading) trimmed() api.Auto {
	states := x.inOrder()
	return x.some(states, func(s int) int { return slices.Index(states, s) })
}

// apart returns which states of a trimmed automaton are told apart, pair by pair.
func (x reading) apart() map[[2]int]bool {
	known := map[[2]int]bool{}
	for changed := true; changed; {
		changed = false
		for s := range x.Next {
			for t := range x.Next {
				if !known[[2]int{s, t}] && x.toldApart(s, t, known) {
					known[[2]int{s, t}], changed = true, true
				}
			}
		}
	}
	return known
}

func (x reading) toldApart(s, t int, known map[[2]int]bool) bool {
	if !slices.Equal(x.Yes[s], x.Yes[t]) {
		return true
	}
	for r := range x.regions {
		for k := range x.Next {
			if (k == 0 || !x.leaf(r)) && known[[2]int{x.Next[s][r][k], x.Next[t][r][k]}] {
				return true
			}
			if !x.leaf(r) && known[[2]int{x.Next[k][r][s], x.Next[k][r][t]}] {
				return true
			}
		}
	}
	return false
}

func (x reading) minimal() api.Auto {
	y := read(x.trimmed())
	apart := y.apart()
	first := func(s int) int {
		t := 0
		for apart[[2]int{s, t}] {
			t++
		}
		return t
	}
	var states []int
	for s := range y.Next {
		if first(s) == s {
			states = append(states, s)
		}
	}
	return y.some(states, func(s int) int { return slices.Index(states, first(s)) })
}

// pairs returns the automaton of all pairs of states of two, before it is trimmed. It can have more states than an automaton has.
func pairs(a, b api.Auto) api.Auto {
	l := slices.Clone(a.Guards)
	for _, g := range b.Guards {
		if !slices.ContainsFunc(l, func(h api.Guard) bool { return plain(g) == plain(h) }) {
			l = append(l, g)
		}
	}
	x, y := read(a), read(b)
	n := len(b.Next)
	j := blank(l, len(a.Next)*n)
	regions, _ := guard.Regions(l)
	for s := range j.Next {
		j.Yes[s] = append(slices.Clone(a.Yes[s/n]), b.Yes[s%n]...)
		for r, region := range regions {
			for k := range j.Next {
				one := a.Next[s/n][x.region(region.Least)][k/n]
				two := b.Next[s%n][y.region(region.Least)][k%n]
				j.Next[s][r][k] = one*n + two
			}
		}
	}
	return j
}

// forests are all forests of some heads, by how many trees they have, in order.
type forests struct {
	heads []api.Head
	sized [][][]api.Tree
}

func newForests(heads []api.Head) *forests {
	return &forests{heads: heads, sized: [][][]api.Tree{{nil}}}
}

// of returns those with so many trees: one tree with fewer, and what is beside it.
func (f *forests) of(trees int) [][]api.Tree {
	for n := len(f.sized); n <= trees; n++ {
		var l [][]api.Tree
		for _, h := range f.heads {
			for inside := range n {
				if h.Kind != api.Elem && inside > 0 {
					continue
				}
				for _, kids := range f.sized[inside] {
					for _, beside := range f.sized[n-1-inside] {
						l = append(l, append([]api.Tree{{Head: h, Kids: kids}}, beside...))
					}
				}
			}
		}
		slices.SortFunc(l, compare)
		f.sized = append(f.sized, l)
	}
	return f.sized[trees]
}

// upTo returns those with at most so many trees, in order; of many heads fewer trees, so that they are not too many.
func (f *forests) upTo(trees int) [][]api.Tree {
	var l [][]api.Tree
	for n := range trees + 1 {
		if n < 3 || len(f.heads) < 4 || n < 4 && len(f.heads) < 6 {
			l = append(l, f.of(n)...)
		}
	}
	return l
}
