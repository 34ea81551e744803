package auto

import (
	"slices"

	"withy/api"
	"withy/share"
)

// checked is an automaton that has no error, and what its guards tell apart.
type checked struct {
	api.Auto
	heads
}

// check returns an automaton as one that has no error, or its error.
func check(a api.Auto) (checked, api.Errno) {
	h, e := newHeads(a.Guards)
	switch {
	case e != api.OK:
		return checked{}, e
	case len(a.Guards) == 0 || a.Guards[0].Op != api.GElem:
		return checked{}, api.ErrForm
	case len(a.Next) == 0 || len(a.Next) > api.MaxStates:
		return checked{}, api.ErrMany
	case len(a.Yes) > 0 && len(a.Yes[0]) > api.MaxDefs:
		return checked{}, api.ErrMany
	case !formed(a, len(h.regions)):
		return checked{}, api.ErrForm
	case !closed(a.Next):
		return checked{}, api.ErrRange
	}
	return checked{a, h}, api.OK
}

// checkAt is check, and whether the automaton has a definition with this index.
func checkAt(a api.Auto, def int) (checked, api.Errno) {
	c, e := check(a)
	switch {
	case e != api.OK:
		return checked{}, e
	case !c.hasDef(def):
		return checked{}, api.ErrAbsent
	}
	return c, api.OK
}

// formed is whether the tables of an automaton have as many rows, and these as many elements, as they have to have.
func formed(a api.Auto, regions int) bool {
	states := len(a.Next)
	if len(a.Yes) != states {
		return false
	}
	for _, yes := range a.Yes {
		if len(yes) != len(a.Yes[0]) {
			return false
		}
	}
	for _, rows := range a.Next {
		if len(rows) != regions || slices.ContainsFunc(rows, func(row []int) bool { return len(row) != states }) {
			return false
		}
	}
	return true
}

// closed is whether all numbers of a table are states.
func closed(next [][][]int) bool {
	for _, rows := range next {
		for _, row := range rows {
			if !share.AreIndexes(len(next), row...) {
				return false
			}
		}
	}
	return true
}

// defs is how many definitions an automaton has.
func (c checked) defs() int { return len(c.Yes[0]) }

func (c checked) hasDef(def int) bool { return share.AreIndexes(c.defs(), def) }

// state returns the state of a forest.
func (c checked) state(f []api.Tree) int {
	state := 0
	for _, t := range f {
		state = c.Next[state][c.regionOf(t.Head)][c.state(t.Kids)]
	}
	return state
}

// clone returns an automaton that shares no memory with c.
func (c checked) clone() api.Auto {
	return api.Auto{
		Guards: share.Mapped(c.Guards, share.CloneGuard),
		Next:   share.Mapped(c.Next, func(rows [][]int) [][]int { return share.Mapped(rows, copied) }),
		Yes:    share.Mapped(c.Yes, copied),
	}
}

// copied returns a row that shares no memory with l.
func copied[T any](l []T) []T {
	row := make([]T, len(l))
	copy(row, l)
	return row
}
