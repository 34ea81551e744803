package num

import "withy/api"

// Floor returns the greatest whole number that is no greater than a.
func Floor(a api.Num) (int, api.Errno) { return rounded(a, floor) }

// Ceil returns the least whole number that is no less than a.
func Ceil(a api.Num) (int, api.Errno) { return rounded(a, ceil) }

// Round returns the whole number that is nearest to a; of two, the even one.
func Round(a api.Num) (int, api.Errno) { return rounded(a, round) }

// Decimal writes the multiple of the last place that is nearest to a; of two, the one with an even last digit.
func Decimal(a api.Num, places int) (string, api.Errno) {
	if e := Check(a); e != api.OK {
		return "", e
	}
	if places < 0 || places > api.MaxPlaces {
		return "", api.ErrRange
	}
	scale := tenTo(places)
	last := round(a.N*scale, a.D)
	w := newWriter()
	if places > 0 {
		w.number(abs(last)%scale, places)
		w.put('.')
	}
	w.number(abs(last)/scale, 1)
	w.sign(last) // not that of a: what is rounded to 0 has none
	return w.text(), api.OK
}

func rounded(a api.Num, way func(n, d int) int) (int, api.Errno) {
	if e := Check(a); e != api.OK {
		return 0, e
	}
	return way(a.N, a.D), api.OK
}

// floor returns n divided by d, which is above 0, rounded down: Go's division rounds towards 0.
func floor(n, d int) int {
	q := n / d
	if n%d < 0 {
		q--
	}
	return q
}

func ceil(n, d int) int { return -floor(-n, d) }

func round(n, d int) int {
	q := floor(n, d)
	rest := n - q*d
	if 2*rest > d || 2*rest == d && q%2 != 0 {
		q++
	}
	return q
}

func tenTo(places int) int {
	scale := 1
	for range places {
		scale *= 10
	}
	return scale
}
