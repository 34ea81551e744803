package auto

import (
	"sync"

	"withy/api"
	"withy/share"
)

// filled returns so many rows, each of which a goroutine fills.
func filled[T any](count int, fill func(at int) T) []T {
	rows := make([]T, count)
	var lock sync.Mutex
	var group sync.WaitGroup
	for at := range count {
		group.Go(func() {
			row := fill(at)
			lock.Lock()
			defer lock.Unlock()
			rows[at] = row
		})
	}
	group.Wait()
	return rows
}

// table returns the Next of so many states that is as next says, but for regions of numbers and texts with kids that are not 0, where it is 0.
func (h heads) table(states int, next func(state, region, kids int) int) [][][]int {
	return filled(states, func(state int) [][]int {
		rows := make([][]int, len(h.regions))
		for region := range rows {
			rows[region] = make([]int, states)
			for kids := range states {
				if kids == 0 || !h.leaf(region) {
					rows[region][kids] = next(state, region, kids)
				}
			}
		}
		return rows
	})
}

// kept returns the automaton of some of the states of c, in this order: now says, for each state of c that they lead to, which one it is.
func (c checked) kept(states, now []int) checked {
	next := func(state, region, kids int) int { return now[c.Next[states[state]][region][states[kids]]] }
	return checked{
		api.Auto{
			Guards: share.Mapped(c.Guards, share.CloneGuard),
			Next:   c.table(len(states), next),
			Yes:    share.Mapped(states, func(state int) []bool { return copied(c.Yes[state]) }),
		},
		c.heads,
	}
}
