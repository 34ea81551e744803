package num_test

import (
	"math"
	"math/big"
	"slices"
	"testing"

	"withy/api"
	"withy/num"
)

// termsOf is the chapter's definition.
func termsOf(r *big.Rat) []int {
	first := floorOf(r)
	left := new(big.Rat).Sub(r, big.NewRat(int64(first), 1))
	if left.Sign() == 0 {
		return []int{first}
	}
	return append([]int{first}, termsOf(left.Inv(left))...)
}

// numberOf is the chapter's definition of what terms stand for, and of which ends are within the bounds.
func numberOf(l []int) number {
	r := new(big.Rat)
	for i := len(l) - 1; i >= 0; i-- {
		if r.Sign() != 0 {
			r.Inv(r)
		}
		r.Add(r, new(big.Rat).SetInt64(int64(l[i])))
		if a, e := within(r); e != api.OK {
			return result(a, e)
		}
	}
	return result(within(r))
}

// P1.4: Terms. P1.11: terms stand for their number.
func TestTerms(t *testing.T) {
	for _, a := range samples(20) {
		l, e := num.Terms(a)
		if want := termsOf(rat(a)); !slices.Equal(l, want) || e != api.OK {
			t.Errorf("Terms(%v): %v, %v, not %v", a, l, e, want)
		}
		same(t, result(num.Of(l)), result(a, api.OK), "Of the terms", l)
	}
	for a, want := range map[api.Num][]int{n(45, 16): {2, 1, 4, 3}, n(-3, 2): {-2, 2}, n(0, 1): {0}, n(-7, 1): {-7}, n(1, most): {0, most}, n(-1, most): {-1, 1, most - 1}, n(1-most, most): {-1, most}} {
		if l, e := num.Terms(a); !slices.Equal(l, want) || e != api.OK {
			t.Errorf("Terms(%v): %v, %v, not %v", a, l, e, want)
		}
	}
}

// P1.4: Of. P1.11: no other terms in their form stand for a number.
func TestOf(t *testing.T) {
	seen := map[api.Num][]int{}
	var try func(l []int)
	try = func(l []int) {
		if len(l) > 0 {
			a, e := num.Of(l)
			if len(l) > 1 && l[len(l)-1] == 1 {
				same(t, result(a, e), result(none, api.ErrForm), "Of", l)
			} else {
				same(t, result(a, e), numberOf(l), "Of", l)
				if other, is := seen[a]; is {
					t.Errorf("%v and %v stand for %v", l, other, a)
				}
				seen[a] = slices.Clone(l)
				if back, _ := num.Terms(a); !slices.Equal(back, l) {
					t.Errorf("Terms(%v): %v, not %v", a, back, l)
				}
			}
		}
		if len(l) == 5 {
			return
		}
		low := 1
		if len(l) == 0 {
			low = -3
		}
		for k := low; k <= 4; k++ {
			try(append(slices.Clone(l), k))
		}
	}
	try(nil)
}

func ones(count, last int) []int {
	l := slices.Repeat([]int{1}, count)
	l[count-1] = last
	return l
}

// P1.4: what Of does not take, in the order of its errors, and its limits.
func TestOfErrors(t *testing.T) {
	for _, x := range []struct {
		l []int
		e api.Errno
	}{
		{nil, api.ErrMany}, {[]int{}, api.ErrMany}, {make([]int, api.MaxTerms+1), api.ErrMany}, {ones(api.MaxTerms+1, 2), api.ErrMany},
		{make([]int, api.MaxTerms), api.ErrRange}, {ones(api.MaxTerms, 2), api.ErrLimit}, {ones(42, 2), api.OK}, {ones(43, 2), api.ErrLimit}, {ones(api.MaxTerms, 1), api.ErrForm},
		{[]int{1, 0, 1}, api.ErrRange}, {[]int{most + 1, 0, 1}, api.ErrRange}, {[]int{1, -1}, api.ErrRange}, {[]int{1, 1, math.MinInt}, api.ErrRange}, {[]int{1, 0}, api.ErrRange},
		{[]int{1, 1}, api.ErrForm}, {[]int{most + 1, 1}, api.ErrForm}, {[]int{1, most + 1, 1}, api.ErrForm}, {[]int{1}, api.OK}, {[]int{0}, api.OK}, {[]int{-1}, api.OK},
		{[]int{most}, api.OK}, {[]int{-most}, api.OK}, {[]int{most + 1}, api.ErrLimit}, {[]int{-most - 1}, api.ErrLimit}, {[]int{math.MinInt}, api.ErrLimit}, {[]int{math.MaxInt}, api.ErrLimit},
		{[]int{0, most}, api.OK}, {[]int{0, most + 1}, api.ErrLimit}, {[]int{1, most}, api.ErrLimit}, {[]int{-1, most}, api.OK}, {[]int{-2, most}, api.ErrLimit}, {[]int{most, 2}, api.ErrLimit}, {[]int{-most, 2}, api.ErrLimit},
		{[]int{0, 1, most - 1}, api.OK}, {[]int{0, 1, most}, api.ErrLimit}, {[]int{-1, 1, most - 1}, api.OK}, {[]int{0, math.MaxInt, 2}, api.ErrLimit}, {[]int{math.MinInt, 2}, api.ErrLimit}, {[]int{math.MaxInt, math.MaxInt}, api.ErrLimit},
		{[]int{1 << 32, 1 << 32}, api.ErrLimit}, {[]int{0, 1 << 32, 1 << 32}, api.ErrLimit}, {[]int{0, 1 << 62, 4}, api.ErrLimit},
	} {
		a, e := num.Of(x.l)
		same(t, e, x.e, "Of", x.l)
		if e != api.OK {
			same(t, a, none, "Of", x.l)
		} else {
			same(t, result(a, e), numberOf(x.l), "Of", x.l)
		}
	}
	same(t, result(num.Of([]int{0, 1, most - 1})), result(n(most-1, most), api.OK), "Of at the bounds")
	same(t, result(num.Of([]int{-1, most})), result(n(1-most, most), api.OK), "Of at the bounds")
}
