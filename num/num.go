// Package num computes with exact numbers. It is specified in shared/doc/01-num.md.
package num

import (
	"withy/api"
	"withy/share"
)

// Check returns the error of a number, or OK.
func Check(a api.Num) api.Errno {
	switch {
	case a.D < 1 || a.D > api.MaxNum || a.N < -api.MaxNum || a.N > api.MaxNum:
		return api.ErrRange
	case gcd(a.N, a.D) > 1:
		return api.ErrForm
	}
	return api.OK
}

// Make returns n divided by d.
func Make(n, d int) (api.Num, api.Errno) {
	switch {
	case !wide(n) || !wide(d):
		return api.Num{}, api.ErrRange
	case d == 0:
		return api.Num{}, api.ErrEmpty
	}
	return share.Bounded(func() api.Num { return lowest(n, d) })
}

// Neg returns -a.
func Neg(a api.Num) (api.Num, api.Errno) {
	if e := Check(a); e != api.OK {
		return api.Num{}, e
	}
	return api.Num{N: -a.N, D: a.D}, api.OK
}

// Add returns a + b.
func Add(a, b api.Num) (api.Num, api.Errno) { return compute(add, a, b) }

// Sub returns a - b.
func Sub(a, b api.Num) (api.Num, api.Errno) { return compute(subtract, a, b) }

// Mul returns a times b.
func Mul(a, b api.Num) (api.Num, api.Errno) { return compute(multiply, a, b) }

// Div returns a divided by b.
func Div(a, b api.Num) (api.Num, api.Errno) {
	if e := firstError(a, b); e != api.OK {
		return api.Num{}, e
	}
	if b.N == 0 {
		return api.Num{}, api.ErrEmpty
	}
	return compute(divide, a, b)
}

// Sum adds the numbers of a list, from the first one on.
func Sum(l []api.Num) (api.Num, api.Errno) {
	if e := firstError(l...); e != api.OK {
		return api.Num{}, e
	}
	return share.Bounded(func() api.Num { return total(l...) })
}

// Pow returns a times itself, n times.
func Pow(a api.Num, n int) (api.Num, api.Errno) {
	if e := Check(a); e != api.OK {
		return api.Num{}, e
	}
	if n < 0 || n > api.MaxPow {
		return api.Num{}, api.ErrRange
	}
	return share.Bounded(func() api.Num { return power(a, n) })
}

// Cmp returns -1 if a is less than b, 0 if they are equal, otherwise 1.
func Cmp(a, b api.Num) (int, api.Errno) {
	if e := firstError(a, b); e != api.OK {
		return 0, e
	}
	return fraction(a).compare(fraction(b)), api.OK
}

// Whole returns whether a is a whole number.
func Whole(a api.Num) (bool, api.Errno) {
	if e := Check(a); e != api.OK {
		return false, e
	}
	return a.D == 1, api.OK
}

// firstError returns the error of the first number that has one, or OK.
func firstError(l ...api.Num) api.Errno {
	for _, a := range l {
		if e := Check(a); e != api.OK {
			return e
		}
	}
	return api.OK
}

func wide(n int) bool { return -api.MaxWide <= n && n <= api.MaxWide }
