package num_test

import (
	"math/big"
	"regexp"
	"strconv"
	"strings"
	"testing"

	"withy/api"
	"withy/num"
)

// P1.5: Print, and what is printed is parsed as it was.
func TestPrint(t *testing.T) {
	for _, a := range samples(25) {
		want := strconv.Itoa(a.N)
		if a.D != 1 {
			want += "/" + strconv.Itoa(a.D)
		}
		s, e := num.Print(a)
		same(t, s, want, "Print", a)
		same(t, e, api.OK, "Print", a)
		same(t, result(num.Parse(s)), result(a, api.OK), "Parse", s)
	}
}

var (
	fractionForm = regexp.MustCompile(`^(0|-?[1-9][0-9]*)(/[1-9][0-9]*)?$`)
	decimalForm  = regexp.MustCompile(`^-?(0|[1-9][0-9]{0,8})\.[0-9]{1,9}$`)
)

// read is what Parse has to return.
func read(s string) number {
	if decimalForm.MatchString(s) {
		r, _ := new(big.Rat).SetString(s)
		return result(within(r))
	}
	if !fractionForm.MatchString(s) {
		return result(none, api.ErrForm)
	}
	r, _ := new(big.Rat).SetString(s)
	if strings.TrimSuffix(r.String(), "/1") != s {
		return result(none, api.ErrForm)
	}
	if a, e := within(r); e == api.OK {
		return result(a, e)
	}
	return result(none, api.ErrForm) // not what Print writes
}

// P1.5 and R9: Parse takes the two forms, and nothing else: all texts of some bytes.
func TestParseAll(t *testing.T) {
	const bytes = "0246-/.x"
	var try func(s string)
	try = func(s string) {
		same(t, result(num.Parse(s)), read(s), "Parse", s)
		if len(s) < 6 {
			for i := range len(bytes) {
				try(s + bytes[i:i+1])
			}
		}
	}
	try("")
	for i := range 256 {
		for _, s := range []string{"", "1", "1/", "1.", "1/2", "1.5", "-"} {
			for _, x := range []string{s + string([]byte{byte(i)}), string([]byte{byte(i)}) + s} {
				same(t, result(num.Parse(x)), read(x), "Parse", x)
			}
		}
	}
}

// P1.5 and R7: Parse at its bounds.
func TestParse(t *testing.T) {
	for s, want := range map[string]number{
		"-3/4": result(n(-3, 4), api.OK), "1.25": result(n(5, 4), api.OK), "-0.50": result(n(-1, 2), api.OK), "0": result(n(0, 1), api.OK),
		"-0.0": result(n(0, 1), api.OK), "0.0": result(n(0, 1), api.OK), "-0.000000000": result(n(0, 1), api.OK), "-1.0": result(n(-1, 1), api.OK),
		"1000000000": result(n(most, 1), api.OK), "-1000000000": result(n(-most, 1), api.OK), "1/1000000000": result(n(1, most), api.OK), "-1000000000/999999999": result(n(-most, most-1), api.OK),
		"1000000001": result(none, api.ErrForm), "-1000000001": result(none, api.ErrForm), "1/1000000001": result(none, api.ErrForm), "9999999999": result(none, api.ErrForm), "10000000000": result(none, api.ErrForm),
		"999999999.0": result(n(999999999, 1), api.OK), "-999999999.000000000": result(n(-999999999, 1), api.OK), "1000000000.0": result(none, api.ErrForm), "0.0000000001": result(none, api.ErrForm),
		"0.000000001": result(n(1, most), api.OK), "-0.999999999": result(n(-999999999, most), api.OK), "1.000000000": result(n(1, 1), api.OK), "1.000000001": result(none, api.ErrLimit), "1.000000005": result(n(200000001, 200000000), api.OK),
		"123456789.123456789": result(none, api.ErrLimit), "-999999999.999999999": result(none, api.ErrLimit), "999999999.5": result(none, api.ErrLimit), "499999999.5": result(n(999999999, 2), api.OK), "500000000.5": result(none, api.ErrLimit),
		"6/8": result(none, api.ErrForm), "3/1": result(none, api.ErrForm), "01": result(none, api.ErrForm), "-0": result(none, api.ErrForm), "+1": result(none, api.ErrForm), "1.": result(none, api.ErrForm),
		"": result(none, api.ErrForm), "-": result(none, api.ErrForm), ".": result(none, api.ErrForm), "/": result(none, api.ErrForm), ".5": result(none, api.ErrForm), "-.5": result(none, api.ErrForm), "/2": result(none, api.ErrForm), "1/": result(none, api.ErrForm),
		"0/1": result(none, api.ErrForm), "0/2": result(none, api.ErrForm), "-0/2": result(none, api.ErrForm), "1/0": result(none, api.ErrForm), "0/0": result(none, api.ErrForm), "1/-2": result(none, api.ErrForm), "1/02": result(none, api.ErrForm), "01/2": result(none, api.ErrForm),
		"1.-5": result(none, api.ErrForm), "--1": result(none, api.ErrForm), "--0.5": result(none, api.ErrForm), "00.5": result(none, api.ErrForm), "-00.5": result(none, api.ErrForm), "01.5": result(none, api.ErrForm), "+0.5": result(none, api.ErrForm),
		"1.5/2": result(none, api.ErrForm), "1/2.5": result(none, api.ErrForm), "1/2/3": result(none, api.ErrForm), "1.2.3": result(none, api.ErrForm), "1e3": result(none, api.ErrForm), "1_0": result(none, api.ErrForm), "0x1": result(none, api.ErrForm), " 1": result(none, api.ErrForm), "1 ": result(none, api.ErrForm), "1\n": result(none, api.ErrForm), "1 /2": result(none, api.ErrForm), "\u0661": result(none, api.ErrForm), "1\x00": result(none, api.ErrForm), "\xff": result(none, api.ErrForm), "Inf": result(none, api.ErrForm), "NaN": result(none, api.ErrForm),
		"18446744073709551617": result(none, api.ErrForm), "1/18446744073709551617": result(none, api.ErrForm), "18446744073709551617.5": result(none, api.ErrForm), "0.18446744073709551617": result(none, api.ErrForm),
		strings.Repeat("0", 100000): result(none, api.ErrForm), "1." + strings.Repeat("0", 100000): result(none, api.ErrForm), strings.Repeat("9", 100000) + "/7": result(none, api.ErrForm), strings.Repeat("-", 100000): result(none, api.ErrForm),
	} {
		same(t, result(num.Parse(s)), want, "Parse", s)
		same(t, read(s), want, "the form", s)
	}
}
