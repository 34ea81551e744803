package guard_test

import (
	"math/big"
	"math/rand/v2"
	"regexp"
	"strings"
	"testing"

	"withy/api"
	"withy/guard"
)

// P3.5: Print, and what is printed is parsed as it was.
func TestPrint(t *testing.T) {
	seen := map[string]bool{}
	for _, s := range []string{"*", "<>", "#", "$", "a", "z9z9z9z9", "@k", `@k="a\"b"`, `@k=""`, `@k="\\"`, "<-1/2", "<0", "<1000", "<-1000/99", "%", `""`, `"a b"`, `"\"\\"`, `^""`, `^"x"`, `^"(*|"`, "!a", "!!a", "(a&b)", "(a|b)", "((a&b)|!(c|%))", `(@k="1"&<2)`, "(<2&<>)", "(<>&<2)", strings.Repeat("!", 23) + "a"} {
		g := must(t, s)
		u, e := guard.Print(g)
		same(t, u, s, "Print")
		same(t, e, api.OK, "Print", s)
		same(t, guardText(g), s, "Parse")
	}
	for seed := range uint64(500) {
		g := newPool(seed).guard(1 + int(seed)%api.MaxGuards)
		s, e := guard.Print(g)
		same(t, s, guardText(g), "Print")
		same(t, e, api.OK, "Print", s)
		again, e := guard.Parse(s)
		same(t, e, api.OK, "Parse", s)
		same(t, plain(again), plain(g), "Parse", s)
		seen[s] = true
	}
	same(t, len(seen) > 300, true, "different texts")
}

// P3.5: Parse, of texts that do not have the form, and of texts of guards with errors.
func TestParse(t *testing.T) {
	for s, want := range map[string]api.Errno{
		"": api.ErrForm, " ": api.ErrForm, "a ": api.ErrForm, " a": api.ErrForm, "a b": api.ErrForm, "**": api.ErrForm, "*a": api.ErrForm, "a*": api.ErrForm, "A": api.ErrForm, "aB": api.ErrForm, "1": api.ErrForm, "1a": api.ErrForm, "-1": api.ErrForm, "1/2": api.ErrForm, "é": api.ErrForm, "\x00": api.ErrForm, "\xff": api.ErrForm, "a\n": api.ErrForm, "()": api.ErrForm, "=": api.ErrForm, ")": api.ErrForm, "&": api.ErrForm, "|": api.ErrForm, ">": api.ErrForm, "##": api.ErrForm, "a#": api.ErrForm, `a"b"`: api.ErrForm, `"b"a`: api.ErrForm,
		"@": api.ErrForm, "@@": api.ErrForm, "@k=": api.ErrForm, "@k=1": api.ErrForm, "@k=v": api.ErrForm, `@k"v"`: api.ErrForm, `@="v"`: api.ErrForm, `@k=="v"`: api.ErrForm, `@k="v`: api.ErrForm, `@"k"`: api.ErrForm, "@1": api.ErrForm, "@k=*": api.ErrForm, `@k = "v"`: api.ErrForm, `@K`: api.ErrForm, `k="v"`: api.ErrForm,
		"<": api.ErrForm, "< 1": api.ErrForm, "<<1": api.ErrForm, "<a": api.ErrForm, "<>1": api.ErrForm, "<1>": api.ErrForm, "<>>": api.ErrForm, "<6/8": api.ErrForm, "<01": api.ErrForm, "<-0": api.ErrForm, "<+1": api.ErrForm, "<1/1": api.ErrForm, "<0.5": api.ErrForm, "<1.": api.ErrForm, "<1/0": api.ErrForm, "<-": api.ErrForm, "<1/": api.ErrForm, "<1/2/3": api.ErrForm, "<1-": api.ErrForm, "<--1": api.ErrForm, "<1/-2": api.ErrForm, "<1a": api.ErrForm, "<1000000001": api.ErrForm, "<99999999999999999999": api.ErrForm, `<"1"`: api.ErrForm,
		"^": api.ErrForm, "^a": api.ErrForm, "^1": api.ErrForm, `^^"a"`: api.ErrForm, `^"`: api.ErrForm, `"`: api.ErrForm, `"a`: api.ErrForm, `"""`: api.ErrForm, `"\"`: api.ErrForm, `"\`: api.ErrForm, `"\a"`: api.ErrForm, "\"\n\"": api.ErrForm, "\"\x7f\"": api.ErrForm, `"é"`: api.ErrForm, "\"\x00\"": api.ErrForm, "'a'": api.ErrForm,
		"!": api.ErrForm, "!!": api.ErrForm, "! a": api.ErrForm, "a!": api.ErrForm, "!a!b": api.ErrForm, "(a)": api.ErrForm, "(a&)": api.ErrForm, "(&b)": api.ErrForm, "(a|b": api.ErrForm, "a|b": api.ErrForm, "a|b)": api.ErrForm, "(a|b|c)": api.ErrForm, "(a&b&c)": api.ErrForm, "(a & b)": api.ErrForm, "(a b)": api.ErrForm, "(a,b)": api.ErrForm, "(a&&b)": api.ErrForm, "(a|b))": api.ErrForm, "((a|b)": api.ErrForm, "(a|b)c": api.ErrForm, "(a!b)": api.ErrForm,
		"abcdefghi": api.ErrName, "@abcdefghi": api.ErrName, `@abcdefghi="1234567890123"`: api.ErrName, `@k="1234567890123"`: api.ErrRange, `"` + strings.Repeat("x", 25) + `"`: api.ErrRange, `^"` + strings.Repeat("x", 25) + `"`: api.ErrRange, "<1001": api.ErrRange, "<-1001": api.ErrRange, "<1/101": api.ErrRange, "<1000000000": api.ErrRange, "<1/1000000000": api.ErrRange,
		"(abcdefghi&<1001)": api.ErrName, "(<1001&abcdefghi)": api.ErrRange, "(<1001&A)": api.ErrForm, "(abcdefghi&b": api.ErrForm, "(abcdefghi&(b|<1001))": api.ErrName,
		strings.Repeat("!", 24) + "a": api.ErrMany, strings.Repeat("!", 24) + "abcdefghi": api.ErrMany, strings.Repeat("!", 24): api.ErrForm, strings.Repeat("(a|", 12) + "a" + strings.Repeat(")", 12): api.ErrMany, strings.Repeat("(", 1000): api.ErrForm,
		strings.Repeat("!", 19999) + "a": api.ErrMany, strings.Repeat("!", 20000) + "a": api.ErrLimit, strings.Repeat("!", 20000): api.ErrForm, strings.Repeat("!", 20001): api.ErrLimit, strings.Repeat("(", 20000): api.ErrForm, strings.Repeat("a", 20000): api.ErrName, strings.Repeat("a", 20001): api.ErrLimit, `"` + strings.Repeat("x", 19998) + `"`: api.ErrRange, `"` + strings.Repeat("x", 19999): api.ErrForm, `"` + strings.Repeat("x", 19999) + `"`: api.ErrLimit, "<" + strings.Repeat("1", 19999): api.ErrForm,
	} {
		g, e := guard.Parse(s)
		same(t, e, want, "Parse", s)
		same(t, plain(g), plain(api.Guard{}), "Parse with an error", s)
	}
	for _, s := range []string{`"` + strings.Repeat("x", api.MaxText) + `"`, `@k="123456789012"`, strings.Repeat("!", 23) + "a", strings.Repeat("(a|", 11) + "!a" + strings.Repeat(")", 11), "<1/100", "<1000", "<-1000"} {
		must(t, s)
	}
}

var (
	quotes = regexp.MustCompile(`"(?:\\["\\]|[ !#-\[\]-~])*"`)
	bounds = regexp.MustCompile(`<[-/0-9]+`)
	atoms  = regexp.MustCompile(`\^Q|@[a-z][a-z0-9]*(?:=Q)?|<>|[a-z][a-z0-9]*|[*#$%Q]`)
	joints = regexp.MustCompile(`!G|\(G[&|]G\)`)
)

// formed is whether a text has the form of one of a guard: strings are made Q, all that has no guards in it G, and what is made of these G again, until nothing is left to be made.
func formed(s string) bool {
	s = strings.NewReplacer("Q", "~", "G", "~").Replace(s)
	s = quotes.ReplaceAllString(s, "Q")
	s = bounds.ReplaceAllStringFunc(s, func(s string) string {
		most := big.NewInt(api.MaxNum)
		x, is := new(big.Rat).SetString(s[1:])
		if !is || x.RatString() != s[1:] || x.Num().CmpAbs(most) > 0 || x.Denom().Cmp(most) > 0 {
			return "~"
		}
		return "G"
	})
	s = atoms.ReplaceAllString(s, "G")
	for t := ""; t != s; {
		t, s = s, joints.ReplaceAllString(s, "G")
	}
	return s == "G"
}

// P3.5: texts have the form just if this is so by the rules of formed; what is parsed is printed as it was.
func TestForm(t *testing.T) {
	r := rand.New(rand.NewPCG(3, 5))
	pieces := []string{"*", "<>", "#", "$", "%", "a", "b1", "@", "@k", "=", `"`, `"x"`, `\`, `""`, "<", ">", "1", "-", "0", "2", "^", "!", "(", ")", "&", "|", " ", "A", "~", "\n", "\xff"}
	count := 0
	try := func(s string) {
		g, e := guard.Parse(s)
		want := formed(s)
		same(t, e != api.ErrForm, want, "form", s)
		if want && e == api.OK {
			same(t, guardText(g), s, "Parse")
			count++
		}
	}
	for _, x := range pieces {
		for _, y := range pieces {
			for _, z := range pieces {
				try(x + y + z)
			}
		}
	}
	for seed := range uint64(3000) {
		p := newPool(seed)
		s := guardText(p.guard(1 + p.r.IntN(8)))
		for range 1 + r.IntN(2) {
			at := r.IntN(len(s) + 1)
			end := min(len(s), at+r.IntN(2))
			s = s[:at] + pieces[r.IntN(len(pieces))][:r.IntN(2)] + s[end:]
		}
		try(s)
	}
	for b := range 256 {
		for _, x := range [][2]string{{"", ""}, {"a", ""}, {"", "a"}, {`"`, `"`}, {`"\`, `"`}, {"@k", ""}, {"@", ""}, {"<", ""}, {"<1", ""}, {"^", `""`}, {"(a", "b)"}, {`@k=`, `""`}, {"(a&b", ""}} {
			try(x[0] + string([]byte{byte(b)}) + x[1])
		}
	}
	same(t, count > 1000, true, "texts that have the form", count)
}

// P3.5 and P0.2: the error of what is parsed is that of Check.
func TestParseErrors(t *testing.T) {
	for i, x := range wrongGuards() {
		if x.e == api.ErrForm || x.e == api.ErrMany {
			continue // it has no text, or one without an end
		}
		s := guardText(x.Guard)
		_, e := guard.Parse(s)
		if formed(s) {
			same(t, e, x.e, "Parse", i, s)
		} else {
			same(t, e, api.ErrForm, "Parse", i, s)
		}
	}
}
