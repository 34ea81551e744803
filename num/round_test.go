package num_test

import (
	"math"
	"math/big"
	"strings"
	"testing"

	"withy/api"
	"withy/num"
)

// nearestWhole returns the whole number that is nearest to r; of two, the even one.
func nearestWhole(r *big.Rat) *big.Int {
	below := new(big.Int).Div(r.Num(), r.Denom())
	above := new(big.Int).Add(below, big.NewInt(1))
	down := new(big.Rat).Sub(r, new(big.Rat).SetInt(below))
	up := new(big.Rat).Sub(new(big.Rat).SetInt(above), r)
	if k := down.Cmp(up); k < 0 || k == 0 && below.Bit(0) == 0 {
		return below
	}
	return above
}

// decimalOf writes the nearest multiple of the last place, by cutting the digits of a whole number.
func decimalOf(a api.Num, places int) string {
	scale := new(big.Int).Exp(big.NewInt(10), big.NewInt(int64(places)), nil)
	last := nearestWhole(new(big.Rat).Mul(rat(a), new(big.Rat).SetInt(scale)))
	sign := ""
	if last.Sign() < 0 {
		sign = "-"
	}
	s := new(big.Int).Abs(last).String()
	s = strings.Repeat("0", max(0, places+1-len(s))) + s
	if places == 0 {
		return sign + s
	}
	return sign + s[:len(s)-places] + "." + s[len(s)-places:]
}

// P1.3 and R6: Floor, Ceil and Round, which of two takes the even one. P1.8: those around a number are the nearest ones.
func TestRounded(t *testing.T) {
	for _, a := range samples(14) {
		f, e0 := num.Floor(a)
		c, e1 := num.Ceil(a)
		r, e2 := num.Round(a)
		same(t, [3]api.Errno{e0, e1, e2}, [3]api.Errno{}, "errors", a)
		same(t, f, floorOf(rat(a)), "Floor", a)
		same(t, c, -floorOf(new(big.Rat).Neg(rat(a))), "Ceil", a)
		same(t, int64(r), nearestWhole(rat(a)).Int64(), "Round", a)
		if r != f && r != c || c-f > 1 || (c == f) != (a.D == 1) {
			t.Errorf("%v: from %d to %d, and %d", a, f, c, r)
		}
	}
	for a, want := range map[api.Num]int{n(1, 2): 0, n(-1, 2): 0, n(3, 2): 2, n(-3, 2): -2, n(5, 2): 2, n(-5, 2): -2, n(7, 2): 4, n(-7, 2): -4, n(7, 3): 2, n(8, 3): 3, n(-8, 3): -3, n(most-1, 2): 500000000, n(1-most, 2): -500000000} {
		r, e := num.Round(a)
		same(t, r, want, "Round", a)
		same(t, e, api.OK, "Round", a)
	}
}

// P1.3: Decimal. P1.8: a decimal is as near as half of its last place.
func TestDecimal(t *testing.T) {
	for _, a := range append(samples(10), n(1, 1000), n(-1, 1000), n(1, 200), n(-1, 200), n(3, 200), n(-3, 200), n(995, 1), n(-1999, 2000), n(1999, 2000)) {
		half := big.NewRat(1, 2)
		for places := 0; places <= api.MaxPlaces; places++ {
			s, e := num.Decimal(a, places)
			same(t, s, decimalOf(a, places), "Decimal", a, places)
			same(t, e, api.OK, "Decimal", a, places)
			r, ok := new(big.Rat).SetString(s)
			if !ok {
				t.Fatalf("Decimal(%v, %d) is no number: %q", a, places, s)
			}
			if r.Sub(r, rat(a)).Abs(r).Cmp(half) > 0 {
				t.Errorf("Decimal(%v, %d) is too far: %q", a, places, s)
			}
			half.Quo(half, big.NewRat(10, 1))
		}
		for _, places := range []int{-1, api.MaxPlaces + 1, math.MinInt, math.MaxInt} {
			s, e := num.Decimal(a, places)
			same(t, s, "", "Decimal", a, places)
			same(t, e, api.ErrRange, "Decimal", a, places)
		}
	}
	for _, x := range []struct {
		a      api.Num
		places int
		want   string
	}{
		{n(1, 3), 4, "0.3333"}, {n(-1, 8), 2, "-0.12"}, {n(3, 8), 2, "0.38"}, {n(5, 2), 0, "2"}, {n(-5, 2), 0, "-2"},
		{n(-1, 1000), 2, "0.00"}, {n(-1, 2), 0, "0"}, {n(-1, 200), 2, "0.00"}, {n(-3, 200), 2, "-0.02"}, {n(0, 1), 0, "0"}, {n(0, 1), 3, "0.000"},
		{n(-most, 1), 9, "-1000000000.000000000"}, {n(1, most), 9, "0.000000001"}, {n(1, 20), 1, "0.0"}, {n(3, 20), 1, "0.2"}, {n(most-1, most), 8, "1.00000000"},
	} {
		s, _ := num.Decimal(x.a, x.places)
		same(t, s, x.want, "Decimal", x.a, x.places)
	}
}
