package num_test

import (
	"math"
	"math/big"
	"testing"

	"withy/api"
)

// The tests reckon with math/big what the functions have to return, so that they share no code with them.

func n(a, b int) api.Num { return api.Num{N: a, D: b} }

func rat(a api.Num) *big.Rat { return big.NewRat(int64(a.N), int64(a.D)) }

var none api.Num

const most = api.MaxNum

// small are all numbers with a numerator from -top to top, and a denominator of at most top.
func small(top int) []api.Num {
	var l []api.Num
	for d := 1; d <= top; d++ {
		for k := -top; k <= top; k++ {
			if a := n(k, d); rat(a).Denom().Int64() == int64(d) {
				l = append(l, a)
			}
		}
	}
	return l
}

// large are numbers at the bounds, and beside them.
func large() []api.Num {
	return []api.Num{
		n(most, 1), n(-most, 1), n(most-1, 1), n(1-most, 1), n(1, most), n(-1, most), n(1, most-1),
		n(most, most-1), n(-most, most-1), n(most-1, most), n(1-most, most), n(most-1, most-2),
		n(500000000, 1), n(-500000000, 1), n(500000001, 1), n(most-1, 2), n(1-most, 2), n(most, 3), n(31623, 1), n(31622, 1), n(1, 31623),
		n(701408733, 433494437), n(-701408733, 433494437), n(355, 113), n(62831853, 20000000), n(65536, 65537),
	}
}

func samples(top int) []api.Num { return append(small(top), large()...) }

// wrong is no number, with its error.
type wrong struct {
	api.Num
	e api.Errno
}

func invalid() []wrong {
	return []wrong{
		{n(0, 0), api.ErrRange},
		{n(1, 0), api.ErrRange},
		{n(1, -1), api.ErrRange},
		{n(-2, -4), api.ErrRange},
		{n(most+1, 1), api.ErrRange},
		{n(-most-1, 1), api.ErrRange},
		{n(1, most+1), api.ErrRange},
		{n(2, most+2), api.ErrRange}, // has a divisor, too: the bounds come first
		{n(2*most, 2), api.ErrRange},
		{n(math.MaxInt, math.MaxInt), api.ErrRange},
		{n(math.MinInt, math.MinInt), api.ErrRange},
		{n(math.MinInt, 1), api.ErrRange},
		{n(0, 2), api.ErrForm},
		{n(0, most), api.ErrForm},
		{n(2, 4), api.ErrForm},
		{n(-2, 4), api.ErrForm},
		{n(most, most), api.ErrForm},
		{n(-most, 2), api.ErrForm},
		{n(999999937, 999999937), api.ErrForm}, // a prime
		{n(31607*31607, 31607*2), api.ErrForm},
	}
}

// within returns a number as it has to be returned: ErrLimit beyond the bounds.
func within(r *big.Rat) (api.Num, api.Errno) {
	top := big.NewInt(most)
	if r.Denom().Cmp(top) > 0 || new(big.Int).Abs(r.Num()).Cmp(top) > 0 {
		return none, api.ErrLimit
	}
	return n(int(r.Num().Int64()), int(r.Denom().Int64())), api.OK
}

func floorOf(r *big.Rat) int {
	return int(new(big.Int).Div(r.Num(), r.Denom()).Int64()) // Euclidean: the denominator is above 0
}

// number is a result of the functions that return one.
type number struct {
	api.Num
	e api.Errno
}

func result(a api.Num, e api.Errno) number { return number{a, e} }

func same[T comparable](t *testing.T, got, want T, what ...any) {
	t.Helper()
	if got != want {
		t.Errorf("%v: %v, not %v", what, got, want)
	}
}
