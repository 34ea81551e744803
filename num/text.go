package num

import (
	"strings"

	"withy/api"
	"withy/share"
)

const (
	maxWholeDigits = 9  // digits before the point of a decimal
	maxDigits      = 10 // digits of MaxNum
)

// Print writes a number.
func Print(a api.Num) (string, api.Errno) {
	if e := Check(a); e != api.OK {
		return "", e
	}
	return printed(a), api.OK
}

func printed(a api.Num) string {
	w := newWriter()
	if a.D != 1 {
		w.number(a.D, 1)
		w.put('/')
	}
	w.number(abs(a.N), 1)
	w.sign(a.N)
	return w.text()
}

// writer is a text that is filled from behind, because digits are found from the last one on. It has room for a sign, and for two numbers with a mark between them.
type writer struct {
	bytes [2*maxDigits + 2]byte
	begin int
}

func newWriter() *writer {
	w := &writer{}
	w.begin = len(w.bytes)
	return w
}

func (w *writer) put(b byte) {
	w.begin--
	w.bytes[w.begin] = b
}

// number writes n, which is not below 0, with at least that many digits.
func (w *writer) number(n, digits int) {
	for ; n > 0 || digits > 0; digits-- {
		w.put(byte('0' + n%10))
		n /= 10
	}
}

func (w *writer) sign(n int) {
	if n < 0 {
		w.put('-')
	}
}

func (w *writer) text() string { return string(w.bytes[w.begin:]) }

// Parse reads what Print writes, and decimals.
func Parse(s string) (api.Num, api.Errno) {
	body, negative := strings.CutPrefix(s, "-")
	factor := 1
	if negative {
		factor = -1
	}
	front, mark, behind := cut(body)
	switch mark {
	case '.':
		return parseDecimal(front, behind, factor)
	case 0:
		behind = "1"
	}
	n, isN := digits(front, maxDigits)
	d, isD := digits(behind, maxDigits)
	a := api.Num{N: factor * n, D: d}
	// What Print writes of the number tells its text from the others that could stand for it, like 01, -0 and 3/1.
	if !isN || !isD || Check(a) != api.OK || printed(a) != s {
		return api.Num{}, api.ErrForm
	}
	return a, api.OK
}

func parseDecimal(front, behind string, factor int) (api.Num, api.Errno) {
	whole, isWhole := digits(front, maxWholeDigits)
	part, isPart := digits(behind, api.MaxPlaces)
	if !isWhole || !isPart || len(front) > 1 && front[0] == '0' {
		return api.Num{}, api.ErrForm
	}
	scale := tenTo(len(behind))
	return share.Bounded(func() api.Num { return lowest(factor*(whole*scale+part), scale) })
}

// cut cuts a text at the first slash or point: mark is that byte, or 0 if there is none.
func cut(s string) (front string, mark byte, behind string) {
	at := 0
search:
	for ; at < len(s); at++ {
		switch s[at] {
		case '/', '.':
			break search
		}
	}
	if at == len(s) {
		return s, 0, ""
	}
	return s[:at], s[at], s[at+1:]
}

// digits returns what a text of 1 to `most` digits says, zeros at its front included.
func digits(s string, most int) (n int, is bool) {
	if len(s) < 1 || len(s) > most {
		return 0, false
	}
	for _, b := range []byte(s) {
		if b < '0' || b > '9' {
			return 0, false
		}
		n = 10*n + int(b-'0')
	}
	return n, true
}
