package event

import (
	"slices"

	"withy/api"
)

// Open returns the heads of what is open behind a beginning of events, that which began first as the first one.
func Open(l []api.Event) ([]api.Head, api.Errno) {
	if e := Begins(l); e != api.OK {
		return nil, e
	}
	var open nest[api.Head]
	for _, x := range l {
		switch x.Kind {
		case api.EvOpen:
			open.begin(ownHead(x.Head))
		case api.EvClose:
			open.end()
		}
	}
	return open.all, api.OK
}

// Closing returns the events that end all of what is open behind a beginning of events.
func Closing(l []api.Event) ([]api.Event, api.Errno) {
	b, e := behind(l)
	if e != api.OK {
		return nil, e
	}
	return slices.Repeat([]api.Event{closing()}, b.open), api.OK
}

// Match returns the index of the event with which the tree of an event ends or, if it ends there, began.
func Match(l []api.Event, at int) (int, api.Errno) {
	if e := Check(l); e != api.OK {
		return 0, e
	}
	if !isIndex(l, at) {
		return 0, api.ErrAbsent
	}
	return matches(l)[at], api.OK
}

// matches returns, for each of valid events, the index of the one with which its tree ends or, if it ends there, began.
func matches(l []api.Event) []int {
	m := make([]int, len(l))
	var open nest[int]
	for i, x := range l {
		switch x.Kind {
		case api.EvOpen:
			open.begin(i)
		case api.EvClose:
			first := open.end()
			m[first], m[i] = i, first
		case api.EvLeaf:
			m[i] = i
		}
	}
	return m
}

// Path returns the path of the tree of which an event is.
func Path(l []api.Event, at int) ([]int, api.Errno) {
	if e := Begins(l); e != api.OK {
		return nil, e
	}
	if !isIndex(l, at) {
		return nil, api.ErrAbsent
	}
	return pathOf(l[:at], l[at]), api.OK
}

// pathOf returns the path of the tree of an event, which comes behind others.
func pathOf(before []api.Event, x api.Event) []int {
	var next nest[int] // the indexes of the trees that come next, in all that is open
	next.begin(0)
	for _, y := range before {
		switch y.Kind {
		case api.EvOpen:
			next.begin(0)
			continue
		case api.EvClose:
			next.end()
		}
		*next.last()++
	}
	if x.Kind == api.EvClose {
		next.end()
	}
	return next.all
}

func isIndex(l []api.Event, at int) bool { return 0 <= at && at < len(l) }

// nest is what belongs to each of the elements that are open, that which began first as the first one.
type nest[T any] struct{ all []T }

// begin is for elements that begin, one in the other.
func (n *nest[T]) begin(l ...T) { n.all = append(n.all, l...) }

// end is for the last one that began: it returns what belongs to it.
func (n *nest[T]) end() T {
	x := *n.last()
	n.all = n.all[:len(n.all)-1]
	return x
}

// last is where what belongs to the last one is kept until another one begins.
func (n *nest[T]) last() *T { return &n.all[len(n.all)-1] }
