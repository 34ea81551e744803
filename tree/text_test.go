package tree_test

import (
	"math/big"
	"regexp"
	"slices"
	"strings"
	"testing"

	"withy/api"
	"withy/tree"
)

// P2.5: Print, and what is printed is parsed as it was. P2.11: each forest has one text, and no two have the same.
func TestPrint(t *testing.T) {
	seen := map[string]string{}
	for _, f := range samples(600) {
		s, e := tree.Print(f)
		same(t, s, forestText(f), "Print")
		same(t, e, api.OK, "Print", s)
		g, e := tree.Parse(s)
		sameForest(t, g, e, marks(f), api.OK, "Parse", s)
		same(t, key(g), key(f), "Parse", s)
		if other, is := seen[s]; is {
			same(t, key(f), other, "two forests with one text", s)
		}
		seen[s] = key(f)
	}
	for i, x := range wrongForests() {
		s, e := tree.Print(x.f)
		same(t, s, "", "Print", i)
		same(t, e, x.e, "Print", i)
	}
}

// long returns a forest with a text of so many bytes.
func long(bytes int) []api.Tree {
	wide := elem("abcdefgh")
	wide.Attrs = []api.Attr{attr("abcdefgh", strings.Repeat(`"`, 12)), attr("b", strings.Repeat(`\`, 12)), attr("c", "")}
	var f []api.Tree
	left := bytes
	for step := len(headText(wide.Head)) + 1; left > step+30; left -= step {
		f = append(f, wide)
	}
	for left > 25 {
		f = append(f, text("12345678901")) // 13 bytes, and a blank
		left -= 14
	}
	return append(f, text(strings.Repeat("x", left-2)))
}

// P2.5 and R7: the greatest texts.
func TestLong(t *testing.T) {
	for _, extra := range []int{-1, 0, 1, 2, 1000} {
		f := long(api.MaxDoc + extra)
		s := forestText(f)
		same(t, len(s), api.MaxDoc+extra, "the test's text")
		want, wantE, size := s, api.OK, marks(f)
		if extra > 0 {
			want, wantE, size = "", api.ErrLimit, nil
		}
		got, e := tree.Print(f)
		same(t, got, want, "Print", extra)
		same(t, e, wantE, "Print", extra)
		g, e := tree.Parse(s)
		sameForest(t, g, e, size, wantE, "Parse", extra)
		d, e := tree.Digest(f)
		same(t, e, api.OK, "Digest", extra)
		same(t, d > 0, true, "Digest", extra)
	}
}

var (
	quotes  = regexp.MustCompile(`"(?:\\["\\]|[ !#-\[\]-~])*"`)
	attrs   = regexp.MustCompile(`[a-z][a-z0-9]*\([a-z][a-z0-9]*=Q(?:,[a-z][a-z0-9]*=Q)*\)`)
	numbers = regexp.MustCompile(`(?:^|[ {])(-?[0-9]+(?:/[0-9]+)?)(?:[ }]|$)`)
	labels  = regexp.MustCompile(`(^|[ {])[a-z][a-z0-9]*`)
	inner   = regexp.MustCompile(`[LE]\{[LENQK](?: [LENQK])*\}`)
	outer   = regexp.MustCompile(`^(?:[LENQK](?: [LENQK])*)?$`)
	written = regexp.MustCompile(`^(?:0|-?[1-9][0-9]*)(?:/[1-9][0-9]*)?$`)
)

// isText tells whether a text has the form of one: its strings (Q), elements with attributes (E), numbers (N) and labels (L) are replaced by letters that it cannot have, then elements with kids (K), from the innermost on.
func isText(s string) bool {
	if strings.ContainsAny(quotes.ReplaceAllString(s, ""), "LENQK") {
		return false
	}
	s = quotes.ReplaceAllString(s, "Q")
	s = attrs.ReplaceAllString(s, "E")
	for numbers.MatchString(s) {
		at := numbers.FindStringSubmatchIndex(s)
		if !isWritten(s[at[2]:at[3]]) {
			return false
		}
		s = s[:at[2]] + "N" + s[at[3]:]
	}
	s = labels.ReplaceAllString(s, "${1}L")
	for inner.MatchString(s) {
		s = inner.ReplaceAllString(s, "K")
	}
	return outer.MatchString(s)
}

// isWritten tells whether a text is what num.Print writes.
func isWritten(s string) bool {
	if !written.MatchString(s) {
		return false
	}
	r, _ := new(big.Rat).SetString(s)
	top := big.NewInt(api.MaxNum)
	return strings.TrimSuffix(r.String(), "/1") == s && new(big.Int).Abs(r.Num()).Cmp(top) <= 0 && r.Denom().Cmp(top) <= 0
}

// formed tells what Parse has to do with a text whose forest, if it has one, is valid.
func formed(t *testing.T, s string) {
	t.Helper()
	f, e := tree.Parse(s)
	want := api.OK
	if !isText(s) {
		want = api.ErrForm
	}
	same(t, e, want, "Parse", s)
	if e == api.OK {
		same(t, forestText(f), s, "Parse and print")
	} else {
		same(t, len(f), 0, "Parse", s)
	}
}

// P2.5 and R9: Parse takes what Print writes, and nothing else: all texts of some bytes.
func TestParseAll(t *testing.T) {
	every := func(pieces []string, count int) {
		var add func(s string, left int)
		add = func(s string, left int) {
			formed(t, s)
			for i := 0; i < len(pieces) && left > 0; i++ {
				add(s+pieces[i], left-1)
			}
		}
		add("", count)
	}
	every([]string{"a", "1", "{", "}", " ", `"`}, 6)
	every([]string{"a", "-", "0", "2", "4", "/", " "}, 5)
	every([]string{`"`, `\`, "n", " ", "a"}, 6)
	every([]string{"b", `(x="")`, "(", "x=", `""`, ",", ")", `{"a(x="}`, " "}, 5)
	every([]string{"a", "{", "}", "7", " ", `""`, "\n", "A", ".", "+"}, 4)
	for i := range 256 {
		b := string([]byte{byte(i)})
		for _, s := range []string{b, "a" + b, b + "a", "a" + b + "b", "7" + b, b + "7", `"` + b + `"`, `"\` + b + `"`, "a{" + b + "}", "a{b" + b + "}", "a{b}" + b, "a(" + b + `="")`, `a(x` + b + `="")`, `a(x` + b + `"")`, `a(x="` + b + `")`, `a(x=""` + b, `a(x="")` + b, `a(x=""` + b + `y="")`, `""` + b, "a b" + b + "c"} {
			formed(t, s)
		}
	}
}

// P2.5: texts with a byte that was taken out, put in, or changed.
func TestParseChanged(t *testing.T) {
	bytes := "a7-/ {}()=,\"\\\n"
	for _, f := range samples(60) {
		s := forestText(f)
		if len(s) > 60 {
			continue
		}
		for i := range len(s) + 1 {
			for k := range len(bytes) {
				formedOrInvalid(t, s[:i]+bytes[k:k+1]+s[i:])
				if i < len(s) {
					formedOrInvalid(t, s[:i]+bytes[k:k+1]+s[i+1:])
				}
			}
			if i < len(s) {
				formedOrInvalid(t, s[:i]+s[i+1:])
			}
		}
	}
}

// formedOrInvalid is as formed, but for texts whose forest can have an error.
func formedOrInvalid(t *testing.T, s string) {
	t.Helper()
	f, e := tree.Parse(s)
	if (e == api.ErrName || e == api.ErrOrder || e == api.ErrRange || e == api.ErrMany) && isText(s) {
		same(t, len(f), 0, "Parse", s)
		return
	}
	formed(t, s)
}

// P2.5: errors of texts: that of the length before that of the form, that of the form before that of the forest.
func TestParseErrors(t *testing.T) {
	many := strings.TrimSuffix(strings.Repeat("a ", most+1), " ")
	deep := strings.Repeat("a{", api.MaxDeep) + "a" + strings.Repeat("}", api.MaxDeep)
	for s, want := range map[string]api.Errno{
		"a{}": api.ErrForm, "a  b": api.ErrForm, `a(y="",x="")`: api.ErrOrder, `"\n"`: api.ErrForm, "6/8": api.ErrForm, "": api.OK,
		" ": api.ErrForm, " a": api.ErrForm, "a ": api.ErrForm, "a\n": api.ErrForm, "a\tb": api.ErrForm, "a()": api.ErrForm, "a(){b}": api.ErrForm, "a(x)": api.ErrForm, "a(x=1)": api.ErrForm, "a(x=y)": api.ErrForm, "a(x=)": api.ErrForm, `a(="")`: api.ErrForm, `a(x="" ,y="")`: api.ErrForm, `a(x="", y="")`: api.ErrForm, `a(x="",)`: api.ErrForm, `a(x="")(y="")`: api.ErrForm, `a (x="")`: api.ErrForm, `a(x="") {b}`: api.ErrForm, "a {b}": api.ErrForm, "a{ b}": api.ErrForm, "a{b }": api.ErrForm, "a{b}{c}": api.ErrForm, `a{b}(x="")`: api.ErrForm, "{a}": api.ErrForm, "a{b": api.ErrForm, "a}": api.ErrForm, "a{b}c": api.ErrForm, "}": api.ErrForm, "a{b}}": api.ErrForm,
		"7{a}": api.ErrForm, `7(x="")`: api.ErrForm, `"x"{a}`: api.ErrForm, `"x"(x="")`: api.ErrForm, `"x""y"`: api.ErrForm, `a"x"`: api.ErrForm, "7a": api.ErrForm, `7"x"`: api.ErrForm, "a-1": api.ErrForm, "a/2": api.ErrForm,
		"-0": api.ErrForm, "1.5": api.ErrForm, "0.5": api.ErrForm, "-": api.ErrForm, "/2": api.ErrForm, "1/": api.ErrForm, "1/2/3": api.ErrForm, "01": api.ErrForm, "+1": api.ErrForm, "3/1": api.ErrForm, "1-2": api.ErrForm, "1000000000": api.OK, "1000000001": api.ErrForm, "1/1000000001": api.ErrForm, "99999999999999999999": api.ErrForm,
		`"`: api.ErrForm, `"\`: api.ErrForm, `"\"`: api.ErrForm, `"\\`: api.ErrForm, `"\a"`: api.ErrForm, `"a`: api.ErrForm, `"""`: api.ErrForm, "\"\t\"": api.ErrForm, "\"\x7f\"": api.ErrForm, "\"é\"": api.ErrForm, "\"\xff\"": api.ErrForm, `'a'`: api.ErrForm, "A": api.ErrForm, "aB": api.ErrForm, "a_b": api.ErrForm, "é": api.ErrForm, "\x00": api.ErrForm, "a\x00": api.ErrForm,
		"abcdefgh": api.OK, "abcdefghi": api.ErrName, `a(abcdefghi="")`: api.ErrName, `"` + strings.Repeat("x", 24) + `"`: api.OK, `"` + strings.Repeat("x", 25) + `"`: api.ErrRange, `"` + strings.Repeat(`\"`, 24) + `"`: api.OK, `a(x="123456789012")`: api.OK, `a(x="1234567890123")`: api.ErrRange, `a(x="",x="")`: api.ErrOrder, `a(a="",b="",c="",d="")`: api.ErrMany, `a(d="",c="",b="",a="")`: api.ErrMany,
		"abcdefghi }": api.ErrForm, `a(y="",x="`: api.ErrForm, "abcdefghi 6/8": api.ErrForm, `abcdefghi a(y="",x="")`: api.ErrName,
		many: api.ErrMany, many[2:]: api.OK, many + "}": api.ErrForm, many + " abcdefghi": api.ErrMany, deep: api.ErrLimit, deep[2 : len(deep)-1]: api.OK, "abcdefghi " + deep: api.ErrLimit, deep + "}": api.ErrForm,
		strings.Repeat("a", api.MaxDoc): api.ErrName, strings.Repeat("a", api.MaxDoc+1): api.ErrLimit, strings.Repeat("{", api.MaxDoc): api.ErrForm, strings.Repeat("{", api.MaxDoc+1): api.ErrLimit, strings.Repeat("a{", api.MaxDoc/2): api.ErrForm, strings.Repeat("a{", 6666) + "a" + strings.Repeat("}", 6666): api.ErrMany, `"` + strings.Repeat(`\`, api.MaxDoc-1): api.ErrForm, strings.Repeat("1", api.MaxDoc): api.ErrForm, strings.Repeat("\"", 1<<24): api.ErrLimit,
	} {
		f, e := tree.Parse(s)
		same(t, e, want, "Parse", s)
		if want != api.OK {
			same(t, len(f), 0, "Parse", s)
		}
	}
	if f := must(t, `a(k="a\"b\\"){"\"" "\\"}`); f[0].Attrs[0].Value != `a"b\` || f[0].Kids[0].Text != `"` || f[0].Kids[1].Text != `\` || !slices.Equal(marks(f), marks(must(t, forestText(f)))) {
		t.Error("strings are not read as they are", f)
	}
}
