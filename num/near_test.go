package num_test

import (
	"math"
	"math/big"
	"testing"

	"withy/api"
	"withy/num"
)

// isSimpler is the chapter's definition.
func isSimpler(a, b api.Num) bool {
	x, y := max(a.N, -a.N), max(b.N, -b.N)
	return a.D < b.D || a.D == b.D && (x < y || x == y && a.N > b.N)
}

// P1.4: Simplest. P1.9: no number between is simpler.
func TestSimplest(t *testing.T) {
	all, l := small(15), small(7)
	for _, a := range l {
		for _, b := range l {
			x, y := rat(a), rat(b)
			s, e := num.Simplest(a, b)
			if x.Cmp(y) >= 0 {
				same(t, result(s, e), result(none, api.ErrEmpty), "Simplest", a, b)
				continue
			}
			if e != api.OK || num.Check(s) != api.OK || x.Cmp(rat(s)) >= 0 || rat(s).Cmp(y) >= 0 {
				t.Fatalf("Simplest(%v, %v) is not between: %v, %v", a, b, s, e)
			}
			for _, c := range all { // the one between has a denominator of at most 14
				if x.Cmp(rat(c)) < 0 && rat(c).Cmp(y) < 0 && isSimpler(c, s) {
					t.Errorf("Simplest(%v, %v): %v, but %v is simpler", a, b, s, c)
				}
			}
		}
	}
	for _, x := range []struct {
		a, b api.Num
		want number
	}{
		{n(1, 3), n(1, 2), result(n(2, 5), api.OK)},
		{n(-1, 2), n(-1, 3), result(n(-2, 5), api.OK)},
		{n(-1, 2), n(1, 3), result(n(0, 1), api.OK)},
		{n(5, 2), n(7, 2), result(n(3, 1), api.OK)},
		{n(5, 2), n(19, 2), result(n(3, 1), api.OK)},
		{n(-7, 2), n(-5, 4), result(n(-2, 1), api.OK)},
		{n(0, 1), n(3, 1), result(n(1, 1), api.OK)},
		{n(-3, 1), n(0, 1), result(n(-1, 1), api.OK)},
		{n(0, 1), n(1, 1), result(n(1, 2), api.OK)},
		{n(-1, 1), n(0, 1), result(n(-1, 2), api.OK)},
		{n(1, 1), n(1, 1), result(none, api.ErrEmpty)},
		{n(2, 1), n(1, 1), result(none, api.ErrEmpty)},
		{n(most-1, 1), n(most, 1), result(none, api.ErrLimit)}, // 1999999999/2
		{n(-most, 1), n(1-most, 1), result(none, api.ErrLimit)},
		{n(0, 1), n(1, most), result(none, api.ErrLimit)}, // 1/1000000001
		{n(-1, most), n(0, 1), result(none, api.ErrLimit)},
		{n(0, 1), n(1, most-1), result(n(1, most), api.OK)},
		{n(1, most), n(1, most-1), result(none, api.ErrLimit)},
		{n(-1, most), n(1, most), result(n(0, 1), api.OK)},
		{n(-most, 1), n(most, 1), result(n(0, 1), api.OK)},
		{n(-most, 1), n(2-most, 1), result(n(1-most, 1), api.OK)},
		{n(most-1, most), n(most, most-1), result(n(1, 1), api.OK)},
		{n(1, 3), n(333333332, 999999995), result(n(333333333, 999999998), api.OK)},
		{n(1, 3), n(333333333, 999999998), result(none, api.ErrLimit)},
	} {
		same(t, result(num.Simplest(x.a, x.b)), x.want, "Simplest", x.a, x.b)
	}
}

// P1.9: the simplest one of those at the bounds is the one that is found first on the way down.
func TestSimplestLarge(t *testing.T) {
	l := []api.Num{n(355, 113), n(62831853, 20000000), n(103993, 33102), n(701408733, 433494437), n(433494437, 267914296), n(165580141, 102334155), n(30001, 30000), n(30000, 29999), n(30002, 30001), n(1, 3), n(3334, 10001), n(5, 3), n(999999937, 600000000)}
	for _, a := range l {
		for _, b := range l {
			want := slowSimplest(a, b)
			same(t, result(num.Simplest(a, b)), want, "Simplest", a, b)
			same(t, result(num.Simplest(n(-b.N, b.D), n(-a.N, a.D))), number{n(-want.N, want.D), want.e}, "Simplest of what is below 0", a, b)
		}
	}
}

// slowSimplest goes down the tree in which each number is between two simpler ones (for numbers above 0).
func slowSimplest(a, b api.Num) number {
	if rat(a).Cmp(rat(b)) >= 0 {
		return result(none, api.ErrEmpty)
	}
	left, right := [2]int64{0, 1}, [2]int64{1, 0}
	for {
		mid := [2]int64{left[0] + right[0], left[1] + right[1]}
		r := big.NewRat(mid[0], mid[1])
		switch {
		case r.Cmp(rat(a)) <= 0:
			left = mid
		case r.Cmp(rat(b)) >= 0:
			right = mid
		default:
			return result(within(r))
		}
	}
}

// P1.4 and R6: Near, which of several takes the simplest one. P1.10: none with such a denominator is nearer.
func TestNear(t *testing.T) {
	for _, a := range samples(9) {
		for _, top := range []int{1, 2, 3, 5, 8, 13} {
			var kept api.Num
			var least *big.Rat
			for d := 1; d <= top; d++ {
				below := floorOf(new(big.Rat).Mul(rat(a), big.NewRat(int64(d), 1)))
				for k := below - 1; k <= below+2; k++ {
					c := n(k, d)
					far := new(big.Rat).Sub(big.NewRat(int64(k), int64(d)), rat(a))
					far.Abs(far)
					if least == nil || far.Cmp(least) < 0 || far.Cmp(least) == 0 && isSimpler(c, kept) {
						kept, least = c, far
					}
				}
			}
			same(t, result(num.Near(a, top)), result(kept, api.OK), "Near", a, top)
		}
		for _, top := range []int{0, -1, api.MaxNear + 1, math.MinInt, math.MaxInt} {
			same(t, result(num.Near(a, top)), result(none, api.ErrRange), "Near", a, top)
		}
	}
	for _, x := range []struct {
		a    api.Num
		most int
		want api.Num
	}{
		{n(22, 7), 6, n(19, 6)}, {n(1, 2), 1, n(0, 1)}, {n(-1, 2), 1, n(0, 1)}, {n(3, 2), 1, n(1, 1)}, {n(-3, 2), 1, n(-1, 1)},
		{n(355, 113), 10, n(22, 7)}, {n(-3, 8), 4, n(-1, 3)}, {n(22, 7), 7, n(22, 7)}, {n(0, 1), 1000, n(0, 1)}, {n(7, 1), 1000, n(7, 1)},
		{n(most, 1), 1000, n(most, 1)}, {n(-most, 1), 1, n(-most, 1)}, {n(1, most), 1000, n(0, 1)}, {n(most-1, 2), 1, n(499999999, 1)},
		{n(most, most-1), 1000, n(1, 1)}, {n(62831853, 20000000), 1000, n(355, 113)}, {n(1, 2000), 1000, n(0, 1)}, {n(1, 1999), 1000, n(1, 1000)},
	} {
		same(t, result(num.Near(x.a, x.most)), result(x.want, api.OK), "Near", x.a, x.most)
	}
}
