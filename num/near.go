package num

import (
	"iter"

	"withy/api"
	"withy/share"
)

// Simplest returns the simplest number above a and below b.
func Simplest(a, b api.Num) (api.Num, api.Errno) {
	if e := firstError(a, b); e != api.OK {
		return api.Num{}, e
	}
	if fraction(a).compare(fraction(b)) >= 0 {
		return api.Num{}, api.ErrEmpty
	}
	return share.Bounded(func() api.Num {
		switch {
		case a.N < 0 && b.N > 0:
			return api.Num{N: 0, D: 1}
		case a.N < 0:
			s := between(api.Num{N: -b.N, D: b.D}, api.Num{N: -a.N, D: a.D})
			return lowest(-s.N, s.D)
		}
		s := between(a, b)
		return lowest(s.N, s.D)
	})
}

// between returns the simplest number above a and below b, where a is not below 0. It can be beyond the bounds, though not by more than twice. b can be 1/0, which stands for no bound.
func between(a, b api.Num) api.Num {
	whole := floor(a.N, a.D)
	if (whole+1)*b.D < b.N {
		return api.Num{N: whole + 1, D: 1}
	}
	// Both are from whole to whole + 1. The simplest one has the simplest rest, and 1 divided by that is between theirs, the other way round.
	rest := between(api.Num{N: b.D, D: b.N - whole*b.D}, api.Num{N: a.D, D: a.N - whole*a.D})
	return api.Num{N: whole*rest.N + rest.D, D: rest.N}
}

// Near returns the number with a denominator of at most `most` that is nearest to a; of several, the simplest one.
func Near(a api.Num, most int) (api.Num, api.Errno) {
	if e := Check(a); e != api.OK {
		return api.Num{}, e
	}
	if most < 1 || most > api.MaxNear {
		return api.Num{}, api.ErrRange
	}
	return best(around(a, most), func(x, y api.Num) bool {
		dx, dy := distance(a, x)*y.D, distance(a, y)*x.D
		return dx < dy || dx == dy && simpler(x, y)
	}), api.OK
}

// around yields the numbers on both sides of a, denominator by denominator. Not all are in lowest terms: those that are not are simpler in another form, which is yielded as well.
func around(a api.Num, most int) iter.Seq[api.Num] {
	return func(yield func(api.Num) bool) {
		for d := 1; d <= most; d++ {
			n := floor(a.N*d, a.D)
			if !yield(api.Num{N: n, D: d}) || !yield(api.Num{N: n + 1, D: d}) {
				return
			}
		}
	}
}

// best returns the first of the candidates that no other one is better than.
func best[T any](candidates iter.Seq[T], better func(x, y T) bool) T {
	var kept T
	found := false
	for c := range candidates {
		if !found || better(c, kept) {
			kept, found = c, true
		}
	}
	return kept
}

// distance returns how far x is from a, times both denominators.
func distance(a, x api.Num) int { return abs(x.N*a.D - a.N*x.D) }

func simpler(x, y api.Num) bool {
	switch {
	case x.D != y.D:
		return x.D < y.D
	case abs(x.N) != abs(y.N):
		return abs(x.N) < abs(y.N)
	}
	return x.N > y.N
}
