// Package share has what several layers need of lists, of things that are nested in others, and of limits.
package share

import (
	"iter"
	"slices"

	"withy/api"
)

// Mapped returns what f makes of the elements of a list.
func Mapped[T, U any](l []T, f func(x T) U) []U {
	var made []U
	for _, x := range l {
		y := f(x)
		made = append(made, y)
	}
	return made
}

// Added returns a list with x as its last element, if it has no element that is the same. The list itself stays.
func Added[T any](l []T, x T, same func(x, y T) bool) []T {
	for _, y := range l {
		if same(x, y) {
			return l
		}
	}
	return append(l[:len(l):len(l)], x)
}

// AreIndexes is whether all numbers of a list are indexes of a list of so many elements.
func AreIndexes(count int, l ...int) bool {
	for _, i := range l {
		if i < 0 || i >= count {
			return false
		}
	}
	return true
}

// Nested yields x, and then what its subs have, in order, likewise.
func Nested[T any](x T, subs func(x T) []T) iter.Seq[T] {
	return func(yield func(T) bool) {
		var all func(x T) bool
		all = func(x T) bool {
			if !yield(x) {
				return false
			}
			for _, sub := range subs(x) {
				if !all(sub) {
					return false
				}
			}
			return true
		}
		all(x)
	}
}

// Fits is whether a list has at most so many elements. It goes no further than the first one that is too many, because a slice can hold itself as Subs.
func Fits[T any](l iter.Seq[T], most int) bool {
	count := 0
	for range l {
		count++
		if count > most {
			return false
		}
	}
	return true
}

// Parts yields a guard, and then those of its Subs, in order, with theirs.
func Parts(g api.Guard) iter.Seq[api.Guard] {
	return Nested(g, func(g api.Guard) []api.Guard { return g.Subs })
}

// SameGuard is whether guards are the same in each field.
func SameGuard(a, b api.Guard) bool {
	return a.Op == b.Op && a.Name == b.Name && a.Value == b.Value && a.At == b.At && slices.EqualFunc(a.Subs, b.Subs, SameGuard)
}

// CloneGuard returns a guard that shares no memory with g.
func CloneGuard(g api.Guard) api.Guard {
	g.Subs = Mapped(g.Subs, CloneGuard)
	return g
}

// Beyond is the panic of a result that is beyond a limit: it saves each step of a computation from asking after the one before.
type Beyond struct{}

// Bounded returns what compute returns, or ErrLimit where that goes beyond a limit.
func Bounded[T any](compute func() T) (result T, e api.Errno) {
	defer func() {
		switch recover().(type) {
		case nil:
		case Beyond:
			e = api.ErrLimit
		default: // nothing else panics in what is computed; if it did, the caller would have to get an error, not a panic
			e = api.ErrState
		}
	}()
	return compute(), api.OK
}
