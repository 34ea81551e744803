package num

import (
	"withy/api"
	"withy/share"
)

// lowest returns n divided by d in lowest terms. d is not 0; both are far enough from the bounds of an int that their signs can be changed.
func lowest(n, d int) api.Num {
	common := gcd(n, d)
	switch {
	case d < 0:
		n, d = -n, -d
		fallthrough
	default:
		n, d = n/common, d/common
	}
	if n < -api.MaxNum || n > api.MaxNum || d > api.MaxNum {
		panic(share.Beyond{})
	}
	return api.Num{N: n, D: d}
}

// gcd returns the greatest whole number that divides both, of which one is not 0.
func gcd(n, d int) int {
	for d != 0 {
		n, d = d, n%d
	}
	return abs(n)
}

func abs(n int) int {
	if n < 0 {
		return -n
	}
	return n
}
