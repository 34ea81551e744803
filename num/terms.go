package num

import (
	"iter"

	"withy/api"
	"withy/share"
)

// Terms returns the terms of a number.
func Terms(a api.Num) ([]int, api.Errno) {
	if e := Check(a); e != api.OK {
		return nil, e
	}
	var l []int
	for t := range quotients(a.N, a.D) {
		l = append(l, t)
	}
	return l, api.OK
}

// quotients yields the terms of n divided by d, which is above 0.
func quotients(n, d int) iter.Seq[int] {
	return func(yield func(int) bool) {
		for n, d := n, d; d > 0; {
			q := floor(n, d)
			if !yield(q) {
				return
			}
			n, d = d, n-q*d
		}
	}
}

// Of returns the number that terms stand for.
func Of(terms []int) (api.Num, api.Errno) {
	if len(terms) == 0 || len(terms) > api.MaxTerms {
		return api.Num{}, api.ErrMany
	}
	for _, t := range terms[1:] {
		if t < 1 {
			return api.Num{}, api.ErrRange
		}
	}
	if len(terms) > 1 && terms[len(terms)-1] == 1 {
		return api.Num{}, api.ErrForm
	}
	return share.Bounded(func() api.Num { return standsFor(terms) })
}

// standsFor goes through the ends of the list, the shortest one first. Each term, and each end, is within the bounds before it is multiplied.
func standsFor(terms []int) api.Num {
	first := term(terms[0])
	if len(terms) == 1 {
		return first
	}
	rest := standsFor(terms[1:])
	return lowest(first.N*rest.N+rest.D, rest.N)
}

func term(t int) api.Num {
	if t < -api.MaxNum || t > api.MaxNum {
		panic(share.Beyond{})
	}
	return api.Num{N: t, D: 1}
}
