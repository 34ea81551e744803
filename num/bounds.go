package num

import "withy/api"

// beyond is the panic of a result that has no place within the bounds of a number: it saves each step of a computation from asking after the one before.
type beyond struct{}

// bounded returns what compute returns, or ErrLimit where that goes beyond the bounds.
func bounded[T any](compute func() T) (result T, e api.Errno) {
	defer func() {
		switch recover().(type) {
		case nil:
		case beyond:
			e = api.ErrLimit
		default: // nothing else panics here; if it did, the caller would have to get an error, not a panic
			e = api.ErrState
		}
	}()
	return compute(), api.OK
}

// lowest returns n divided by d in lowest terms. d is not 0; both are far enough from the bounds of an int that their signs can be changed.
func lowest(n, d int) api.Num {
	common := gcd(n, d)
	switch {
	case d < 0:
		n, d = -n, -d
		fallthrough
	default:
		n, d = n/common, d/common
	}
	if n < -api.MaxNum || n > api.MaxNum || d > api.MaxNum {
		panic(beyond{})
	}
	return api.Num{N: n, D: d}
}

// gcd returns the greatest whole number that divides both, of which one is not 0.
func gcd(n, d int) int {
	for d != 0 {
		n, d = d, n%d
	}
	return abs(n)
}

func abs(n int) int {
	if n < 0 {
		return -n
	}
	return n
}
