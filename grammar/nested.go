package grammar

import (
	"iter"
	"slices"

	"withy/api"
)

// expressions yields the expressions of an expression, in order.
func expressions(r api.Re) iter.Seq[api.Re] {
	return nested(r, func(r api.Re) []api.Re { return r.Subs })
}

// guardsIn yields a guard, and the guards in it.
func guardsIn(g api.Guard) iter.Seq[api.Guard] {
	return nested(g, func(g api.Guard) []api.Guard { return g.Subs })
}

// nested yields x, and then what its subs have, in order, likewise.
func nested[T any](x T, subs func(x T) []T) iter.Seq[T] {
	return func(yield func(T) bool) {
		var all func(x T) bool
		all = func(x T) bool {
			if !yield(x) {
				return false
			}
			for _, sub := range subs(x) {
				if !all(sub) {
					return false
				}
			}
			return true
		}
		all(x)
	}
}

// mapped returns what f makes of the elements of a list.
func mapped[T, U any](l []T, f func(x T) U) []U {
	var made []U
	for _, x := range l {
		y := f(x)
		made = append(made, y)
	}
	return made
}

// added returns a list with x as its last element, if it has no element that is the same. The list itself stays.
func added[T any](l []T, x T, same func(x, y T) bool) []T {
	for _, y := range l {
		if same(x, y) {
			return l
		}
	}
	return append(l[:len(l):len(l)], x)
}

// sameGuard is whether guards are the same in each field.
func sameGuard(a, b api.Guard) bool {
	return a.Op == b.Op && a.Name == b.Name && a.Value == b.Value && a.At == b.At && slices.EqualFunc(a.Subs, b.Subs, sameGuard)
}

// sameRe is whether expressions are the same in each field.
func sameRe(a, b api.Re) bool {
	return a.Op == b.Op && sameGuard(a.Guard, b.Guard) && a.Def == b.Def && slices.EqualFunc(a.Subs, b.Subs, sameRe)
}

// cloneGuard returns a guard that shares no memory with g.
func cloneGuard(g api.Guard) api.Guard {
	g.Subs = mapped(g.Subs, cloneGuard)
	return g
}
