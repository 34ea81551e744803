package auto

import "cmp"

// wood is a forest of least heads, and how many trees it has, at all depths.
type wood struct {
	size  int
	trees []bush
}

// sprout is what a wood will be: nothing, or last behind the trees of front. Most of those that are offered are not put together, because their size is enough to compare them.
type sprout struct {
	size  int
	front []bush
	last  bush
}

// compareSprouts compares by size first.
func compareSprouts(x, y sprout) int {
	if x.size != y.size {
		return cmp.Compare(x.size, y.size)
	}
	return compareLists(x.grown().trees, y.grown().trees)
}

func (s sprout) grown() wood {
	if s.size == 0 {
		return wood{}
	}
	return wood{s.size, append(s.front[:len(s.front):len(s.front)], s.last)}
}

// leasts keeps the least of what is offered for each of some numbers, until it is taken.
type leasts[T any] struct {
	compare func(x, y T) int
	kept    []T
	stage   []stage
}

// stage is how far a number is.
type stage int

const (
	isOpen stage = iota // nothing was offered
	isOffered
	isTaken
)

func newLeasts[T any](count int, compare func(x, y T) int) *leasts[T] {
	return &leasts[T]{compare, make([]T, count), make([]stage, count)}
}

func (l *leasts[T]) offer(at int, x T) {
	if l.stage[at] == isOpen || l.stage[at] == isOffered && l.compare(x, l.kept[at]) < 0 {
		l.kept[at], l.stage[at] = x, isOffered
	}
}

// take takes the least of all that is kept, and says whether there is something.
func (l *leasts[T]) take() (at int, found bool) {
	for i, s := range l.stage {
		if s == isOffered && (!found || l.compare(l.kept[i], l.kept[at]) < 0) {
			at, found = i, true
		}
	}
	if found {
		l.stage[at] = isTaken
	}
	return at, found
}
