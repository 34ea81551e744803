package num_test

import (
	"math"
	"math/big"
	"testing"

	"withy/api"
	"withy/num"
)

// P1.1: Check.
func TestCheck(t *testing.T) {
	for _, a := range large() {
		same(t, num.Check(a), api.OK, "Check", a)
	}
	for _, a := range []api.Num{n(0, 1), n(1, 1), n(-1, 1), n(1, 2), n(-3, 4), n(most, 1), n(-most, 1), n(1, most), n(-1, most)} {
		same(t, num.Check(a), api.OK, "Check", a)
	}
	for _, x := range invalid() {
		same(t, num.Check(x.Num), x.e, "Check", x.Num)
	}
	for d := 1; d <= 30; d++ {
		for k := -30; k <= 30; k++ {
			want := api.OK
			for by := 2; by <= 30; by++ {
				if k%by == 0 && d%by == 0 {
					want = api.ErrForm
				}
			}
			same(t, num.Check(n(k, d)), want, "Check", n(k, d))
		}
	}
}

// P1.1 and R8: Make, of any numbers.
func TestMake(t *testing.T) {
	const wide = api.MaxWide
	for _, x := range []struct {
		n, d int
		want number
	}{
		{6, -8, result(n(-3, 4), api.OK)},
		{-6, -8, result(n(3, 4), api.OK)},
		{0, -5, result(n(0, 1), api.OK)},
		{0, wide, result(n(0, 1), api.OK)},
		{1, 0, result(none, api.ErrEmpty)},
		{0, 0, result(none, api.ErrEmpty)},
		{3000000000, 1, result(none, api.ErrLimit)},
		{most + 1, 1, result(none, api.ErrLimit)},
		{-most - 1, 1, result(none, api.ErrLimit)},
		{most, -1, result(n(-most, 1), api.OK)},
		{1, most + 1, result(none, api.ErrLimit)},
		{1, -most, result(n(-1, most), api.OK)},
		{wide, 1, result(none, api.ErrLimit)},
		{wide, most, result(n(most, 1), api.OK)},
		{-most, wide, result(n(-1, most), api.OK)},
		{wide, -wide, result(n(-1, 1), api.OK)},
		{wide - 1, wide, result(none, api.ErrLimit)},
		{wide + 1, 0, result(none, api.ErrRange)}, // the bounds come first
		{wide + 1, wide + 1, result(none, api.ErrRange)},
		{0, wide + 1, result(none, api.ErrRange)},
		{-wide - 1, 1, result(none, api.ErrRange)},
		{1, -wide - 1, result(none, api.ErrRange)},
		{math.MinInt, -1, result(none, api.ErrRange)},
		{math.MaxInt, 0, result(none, api.ErrRange)},
		{1, math.MinInt, result(none, api.ErrRange)},
	} {
		same(t, result(num.Make(x.n, x.d)), x.want, "Make", x.n, x.d)
	}
	for d := -40; d <= 40; d++ {
		for k := -40; k <= 40 && d != 0; k++ {
			same(t, result(num.Make(k, d)), result(within(big.NewRat(int64(k), int64(d)))), "Make", k, d)
		}
	}
}

// P1.1: Neg and Whole.
func TestNegWhole(t *testing.T) {
	for _, a := range samples(12) {
		same(t, result(num.Neg(a)), result(n(-a.N, a.D), api.OK), "Neg", a)
		is, e := num.Whole(a)
		same(t, is, rat(a).IsInt(), "Whole", a)
		same(t, e, api.OK, "Whole", a)
	}
}

// P1.1: Cmp. P1.7: numbers are in one order, that of their values.
func TestCmp(t *testing.T) {
	l := samples(9)
	for _, a := range l {
		for _, b := range l {
			k, e := num.Cmp(a, b)
			same(t, k, rat(a).Cmp(rat(b)), "Cmp", a, b)
			same(t, e, api.OK, "Cmp", a, b)
			back, _ := num.Cmp(b, a)
			same(t, back, -k, "Cmp, the other way round", a, b)
			same(t, k == 0, a == b, "equal numbers", a, b)
		}
	}
}

// P1.2, R5 and R7: Add, Sub, Mul and Div, within the bounds, at them and beyond them.
func TestOperations(t *testing.T) {
	for _, a := range samples(8) {
		for _, b := range samples(8) {
			x, y := rat(a), rat(b)
			same(t, result(num.Add(a, b)), result(within(new(big.Rat).Add(x, y))), "Add", a, b)
			same(t, result(num.Sub(a, b)), result(within(new(big.Rat).Sub(x, y))), "Sub", a, b)
			same(t, result(num.Mul(a, b)), result(within(new(big.Rat).Mul(x, y))), "Mul", a, b)
			want := result(none, api.ErrEmpty)
			if b.N != 0 {
				want = result(within(new(big.Rat).Quo(x, y)))
			}
			same(t, result(num.Div(a, b)), want, "Div", a, b)
		}
	}
}

// P1.2: Sum, of which each step has to be within the bounds.
func TestSum(t *testing.T) {
	lists := [][]api.Num{
		nil, {}, {n(3, 4)}, {n(1, 2), n(1, 3), n(1, 6)},
		{n(most, 1), n(1, 1), n(-1, 1)}, {n(most, 1), n(-1, 1), n(1, 1)}, {n(-1, 1), n(most, 1), n(1, 1)}, {n(-most, 1), n(-1, 1), n(2, 1)},
		{n(1, most), n(1, most-1), n(-1, most-1)}, {n(1, most), n(-1, most), n(1, most-1)},
		{n(most, 1), n(-most, 1), n(-most, 1)},
	}
	l := small(5)
	for i := range l {
		lists = append(lists, l[:i], l[i:])
	}
	for _, l := range lists {
		want, sum := result(n(0, 1), api.OK), new(big.Rat)
		for _, a := range l {
			if sum.Add(sum, rat(a)); want.e == api.OK {
				want = result(within(sum))
			}
		}
		same(t, result(num.Sum(l)), want, "Sum", l)
	}
	long := make([]api.Num, 100000)
	for i := range long {
		long[i] = n(1, 7)
	}
	same(t, result(num.Sum(long)), result(n(100000, 7), api.OK), "Sum of many")
}

// P1.2: Pow.
func TestPow(t *testing.T) {
	for _, a := range samples(11) {
		want := big.NewRat(1, 1)
		for k := 0; k <= api.MaxPow; k++ {
			same(t, result(num.Pow(a, k)), result(within(want)), "Pow", a, k)
			want.Mul(want, rat(a))
		}
		for _, k := range []int{-1, api.MaxPow + 1, math.MinInt, math.MaxInt} {
			same(t, result(num.Pow(a, k)), result(none, api.ErrRange), "Pow", a, k)
		}
	}
	same(t, result(num.Pow(n(2, 1), 29)), result(n(536870912, 1), api.OK), "Pow of 2")
	same(t, result(num.Pow(n(2, 1), 30)), result(none, api.ErrLimit), "Pow of 2")
	same(t, result(num.Pow(n(1, 2), 30)), result(none, api.ErrLimit), "Pow of 1/2")
	same(t, result(num.Pow(n(-1, 1), 29)), result(n(-1, 1), api.OK), "Pow of -1")
}

// taken returns a number that has to be one.
func taken(t *testing.T) func(a api.Num, e api.Errno) api.Num {
	return func(a api.Num, e api.Errno) api.Num {
		t.Helper()
		if e != api.OK {
			t.Fatal("no number: ", e)
		}
		return a
	}
}

// P1.6: sums and products do not depend on order, and what is added, or multiplied by, is taken back.
func TestField(t *testing.T) {
	is := taken(t)
	l := append(small(4), n(30000, 1), n(-30000, 7), n(1, 29999))
	for _, a := range l {
		for _, b := range l {
			sum, product := is(num.Add(a, b)), is(num.Mul(a, b))
			same(t, is(num.Add(b, a)), sum, "sum", a, b)
			same(t, is(num.Mul(b, a)), product, "product", a, b)
			same(t, is(num.Sub(sum, b)), a, "taken back", a, b)
			same(t, is(num.Add(sum, is(num.Neg(b)))), a, "taken back by what is below 0", a, b)
			if b.N != 0 {
				same(t, is(num.Div(product, b)), a, "divided again", a, b)
			}
		}
	}
	for _, a := range small(4) {
		for _, b := range small(4) {
			for _, c := range small(4) {
				left, right := is(num.Add(is(num.Add(a, b)), c)), is(num.Add(a, is(num.Add(b, c))))
				same(t, left, right, "sum", a, b, c)
				same(t, is(num.Sum([]api.Num{c, a, b})), left, "Sum", a, b, c)
				left, right = is(num.Mul(is(num.Mul(a, b)), c)), is(num.Mul(a, is(num.Mul(b, c))))
				same(t, left, right, "product", a, b, c)
				left, right = is(num.Mul(a, is(num.Add(b, c)))), is(num.Add(is(num.Mul(a, b)), is(num.Mul(a, c))))
				same(t, left, right, "product of a sum", a, b, c)
			}
		}
	}
}

// P1.7: there is one order, which sums keep, and products with what is above 0.
func TestOrder(t *testing.T) {
	is := taken(t)
	less := func(a, b api.Num) bool {
		k, e := num.Cmp(a, b)
		return e == api.OK && k == -1
	}
	l := small(4)
	for _, a := range l {
		for _, b := range l {
			for _, c := range l {
				if less(a, b) && less(b, c) && !less(a, c) {
					t.Errorf("%v, %v, %v are not in order", a, b, c)
				}
				if less(a, b) != less(is(num.Add(a, c)), is(num.Add(b, c))) {
					t.Errorf("sums of %v, %v with %v are not in their order", a, b, c)
				}
				if c.N > 0 && less(a, b) != less(is(num.Mul(a, c)), is(num.Mul(b, c))) {
					t.Errorf("products of %v, %v with %v are not in their order", a, b, c)
				}
			}
		}
	}
}
