package derive

import (
	"slices"

	"withy/api"
	"withy/grammar"
	"withy/guard"
	"withy/share"
)

// pair is the state of a list of trees, and that of the kids of one more tree.
type pair struct{ front, kids int }

// builder finds the lists of all forests, and numbers them: they are states.
type builder struct {
	reader
	full   []api.Guard    // the guards of the grammar
	truths [][]bool       // which of the guards of expressions accept what is in each region of these
	leaves int            // how many regions are of numbers and texts: they come first
	states []list         // the first one is that of the empty forest
	known  map[list]int   // the states of lists
	rows   map[pair][]int // the state behind one more tree, by its region
}

func newBuilder(c checked) *builder {
	b := &builder{reader: newReader(c), known: map[list]int{}, rows: map[pair][]int{}}
	b.full, _ = grammar.Guards(c.Grammar) // the grammar has no error
	regions, _ := guard.Regions(b.full)   // nor have they
	places := share.Mapped(c.guards, func(g api.Guard) int {
		return slices.IndexFunc(b.full, func(o api.Guard) bool { return share.SameGuard(g, o) })
	})
	for _, r := range regions {
		b.truths = append(b.truths, share.Mapped(places, func(place int) bool { return r.Truth[place] }))
		if r.Least.Kind != api.Elem {
			b.leaves++
		}
	}
	return b
}

// automaton returns the automaton whose states are the lists of all forests, in the order in which they are found.
func (b *builder) automaton() api.Auto {
	b.search()
	a := api.Auto{Guards: b.full}
	for front, l := range b.states {
		rows := make([][]int, len(b.truths))
		for region := range rows {
			for kids := range b.states {
				rows[region] = append(rows[region], b.rows[pair{front, kids}][region])
			}
		}
		a.Next = append(a.Next, rows)
		a.Yes = append(a.Yes, b.profile(l))
	}
	return a
}

// search looks at all pairs of states, until no pair leads to a new one.
func (b *builder) search() {
	b.state(b.start)
searching:
	for {
		known := len(b.states)
		for front := range known {
			for kids := range known {
				p := pair{front, kids}
				if b.rows[p] == nil {
					b.rows[p] = b.row(p)
				}
				if len(b.states) > known {
					continue searching
				}
			}
		}
		break searching
	}
}

// row returns the state behind one more tree, by its region: 0 where there is no such tree, because numbers and texts have no kids.
func (b *builder) row(p pair) []int {
	first := 0
	if p.kids != 0 {
		first = b.leaves
	}
	kids := b.profile(b.states[p.kids])
	letters := share.Mapped(b.truths[first:], func(accepted []bool) letter { return b.letter(accepted, kids) })
	columns := each(b.reader, func(def int, s *shop) []node {
		front := b.states[p.front][def]
		return share.Mapped(letters, func(by letter) node { return s.next(front, by) })
	})
	row := make([]int, len(b.truths))
	for i := range letters {
		var l list
		for def, column := range columns {
			l[def] = bounded(column[i])
		}
		state := b.state(l)
		row[first+i] = state
	}
	return row
}

// state returns the state of a list, which may be new.
func (b *builder) state(l list) int {
	if state, is := b.known[l]; is {
		return state
	}
	if len(b.states) == api.MaxStates {
		panic(share.Beyond{})
	}
	state := len(b.states)
	b.known[l] = state
	b.states = append(b.states, l)
	return state
}
