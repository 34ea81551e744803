package auto

import (
	"cmp"
	"slices"

	"withy/api"
	"withy/guard"
	"withy/share"
	"withy/tree"
)

// truths tell of each guard of a list whether it accepts a head. They are an array, so that they can be keys; behind the guards they are false.
type truths [api.MaxList]bool

// heads are what a list of guards tells of heads: the regions, and the index of each by its truths, because guard.Which looks at all regions for one head.
type heads struct {
	regions  []api.Region
	byTruths map[truths]int
}

// newHeads returns what a list of guards tells of heads, or the error of the list.
func newHeads(l []api.Guard) (heads, api.Errno) {
	regions, e := guard.Regions(l)
	if e != api.OK {
		return heads{}, e
	}
	byTruths := map[truths]int{}
	for i, r := range regions {
		var t truths
		copy(t[:], r.Truth)
		byTruths[t] = i
	}
	return heads{regions, byTruths}, api.OK
}

// leaf is whether a region is one of numbers and texts. The first guard is GElem.
func (h heads) leaf(region int) bool { return !h.regions[region].Truth[0] }

// regionOf returns the index of the region that a head is in.
func (c checked) regionOf(h api.Head) int {
	var t truths
	for i, g := range c.Guards {
		t[i] = accepts(g, h)
	}
	return c.byTruths[t]
}

// accepts is whether a guard accepts a head, both without errors.
func accepts(g api.Guard, h api.Head) bool {
	is, _ := guard.Holds(g, h)
	return is
}

// regionsIn returns, for each region of a list of guards that has those of the automaton, in which region of the automaton it is.
func (c checked) regionsIn(h heads, l []api.Guard) []int {
	at := share.Mapped(c.Guards, func(g api.Guard) int {
		return slices.IndexFunc(l, func(o api.Guard) bool { return share.SameGuard(g, o) })
	})
	return share.Mapped(h.regions, func(r api.Region) int {
		var t truths
		for i, place := range at {
			t[i] = r.Truth[place]
		}
		return c.byTruths[t]
	})
}

// rank is a region, by its place among all if they are in the order of their heads.
type rank struct {
	region int
	head   api.Head
}

// ranked returns the regions in the order of their heads.
func (h heads) ranked() []rank {
	var l []rank
	for i, r := range h.regions {
		l = append(l, rank{i, r.Least})
	}
	slices.SortFunc(l, func(x, y rank) int {
		c, _ := tree.CompareHeads(x.head, y.head)
		return c
	})
	return l
}

// bush is a tree of a forest of least heads: the rank of its head, and its kids. So trees are compared by numbers.
type bush struct {
	rank int
	kids []bush
}

func compareBushes(x, y bush) int {
	if x.rank != y.rank {
		return cmp.Compare(x.rank, y.rank)
	}
	return compareLists(x.kids, y.kids)
}

func compareLists(l, m []bush) int { return slices.CompareFunc(l, m, compareBushes) }

// planted returns the forest of bushes, which shares no memory with anything.
func planted(l []bush, ranks []rank) []api.Tree {
	return share.Mapped(l, func(b bush) api.Tree {
		h := ranks[b.rank].head
		h.Attrs = slices.Clone(h.Attrs)
		return api.Tree{Head: h, Kids: planted(b.kids, ranks)}
	})
}
