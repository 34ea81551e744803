package grammar_test

import (
	"math/rand/v2"
	"regexp"
	"slices"
	"strings"
	"testing"

	"withy/api"
	"withy/grammar"
	"withy/guard"
)

// P5.5: Print; what is printed is parsed as it was. P5.12: each grammar has one text, and no two have the same.
func TestPrint(t *testing.T) {
	for i, g := range rightGrammars() {
		s, e := grammar.Print(g)
		same(t, s, grammarText(g), "Print", i)
		same(t, e, api.OK, "Print", i)
	}
	for _, s := range []string{exampleText, "a:~\n", "a1:[(a|!@k=\"]\")]b\nb:(.%(a1&!a1))\n", "a:(((.,.)|*!.)&(~%.))\n", "a:[@k=\"\\\"\\\\]\"]a\n", "a:[^\"[\"]a\n", "a:[<-1/2]a\n", "a:[<>]a\n", "a:[(*&!(#|$))]a\n", "abcdefgh:[abcdefgh]abcdefgh\n"} {
		u, e := grammar.Print(must(t, s))
		same(t, u, s, "Print")
		same(t, e, api.OK, "Print", s)
	}
	seen := map[string]string{}
	for seed := range uint64(3000) {
		g := newMaker(seed, allSorts).grammar(3, 1+int(seed%10))
		s, e := grammar.Print(g)
		same(t, s, grammarText(g), "Print")
		same(t, e, api.OK, "Print", s)
		again, e := grammar.Parse(s)
		same(t, plain(again), plain(g), "Parse", s)
		same(t, e, api.OK, "Parse", s)
		if before, is := seen[s]; is {
			same(t, plain(g), before, "grammars with one text", s)
		}
		seen[s] = plain(g)
	}
	same(t, len(seen) > 1500, true, "different texts", len(seen))
}

// sized returns a grammar whose text has so many bytes.
func sized(t *testing.T, size int) api.Grammar {
	wide := func(count int) api.Guard {
		g := api.Guard{Op: api.GIs, Value: strings.Repeat(`"`, api.MaxText)}
		for range count {
			g = api.Guard{Op: api.GOr, Subs: []api.Guard{g, {Op: api.GStarts, Value: strings.Repeat(`"`, api.MaxText)}}}
		}
		return g
	}
	build := func(leaves, middle, last, front int) api.Grammar {
		bodies := slices.Repeat([]api.Re{one(wide(11), 0)}, 11)
		r := one(wide(middle), 0)
		for _, front := range []int{last / 2, last - last/2} {
			r = seq(one(api.Guard{Op: api.GIs, Value: strings.Repeat("x", front)}, 0), r)
		}
		for range leaves {
			r = seq(one(wide(11), 0), r)
		}
		return named(append(bodies, nots(front, r))...)
	}
	length := func(leaves, middle int) int { return len(grammarText(build(leaves, middle, 0, 0))) }
	each := length(1, 0) - length(0, 0)
	for middle := range 12 {
		short := length(0, middle)
		for last := range 2*api.MaxText + 1 {
			rest := size - short - last
			if leaves, front := rest/each, rest%each; 11+5+2*leaves+front <= api.MaxRes {
				return build(leaves, middle, last, front)
			}
		}
	}
	t.Fatal("no grammar of the size", size)
	return api.Grammar{}
}

// P5.5: Print, of grammars whose texts are as long as they can be, and longer; and Parse of these.
func TestPrintLimit(t *testing.T) {
	count := 0
	for size := api.MaxDoc - 10; size < api.MaxDoc+10; size++ {
		g := sized(t, size)
		want := grammarText(g)
		same(t, len(want), size, "size")
		same(t, grammar.Check(g), api.OK, "Check", size)
		s, e := grammar.Print(g)
		if size > api.MaxDoc {
			same(t, s, "", "Print with an error", size)
			same(t, e, api.ErrLimit, "Print", size)
			_, e = grammar.Parse(want)
			same(t, e, api.ErrLimit, "Parse", size)
			continue
		}
		count++
		same(t, s, want, "Print", size)
		same(t, e, api.OK, "Print", size)
		again, e := grammar.Parse(s)
		same(t, plain(again), plain(g), "Parse", size)
		same(t, e, api.OK, "Parse", size)
	}
	same(t, count, 11, "texts that are printed")
}

// P5.5: Parse, of texts that do not have the form, and of texts of grammars with errors.
func TestParse(t *testing.T) {
	times := strings.Repeat
	for s, want := range map[string]api.Errno{
		"a:~": api.ErrForm, "a:~\n\n": api.ErrForm, "\na:~\n": api.ErrForm, "\n": api.ErrForm, "a: ~\n": api.ErrForm, "a :~\n": api.ErrForm, " a:~\n": api.ErrForm, "a:~ \n": api.ErrForm, "a:~\r\n": api.ErrForm, "a\n": api.ErrForm, "a:\n": api.ErrForm, ":~\n": api.ErrForm, "a::~\n": api.ErrForm, "a:~\nb": api.ErrForm, "a:~\nb:~": api.ErrForm, "a:~b:~\n": api.ErrForm, "a:~\n b:~\n": api.ErrForm, "a=~\n": api.ErrForm, "~\n": api.ErrForm,
		"A:~\n": api.ErrForm, "1:~\n": api.ErrForm, "1a:~\n": api.ErrForm, "aB:~\n": api.ErrForm, "a_:~\n": api.ErrForm, "\xff:~\n": api.ErrForm, "é:~\n": api.ErrForm, "[a]:~\n": api.ErrForm, "a\x00:~\n": api.ErrForm, "a:\x00\n": api.ErrForm,
		"a:(.,.,.)\n": api.ErrForm, "a:(.)\n": api.ErrForm, "a:()\n": api.ErrForm, "a:(.;.)\n": api.ErrForm, "a:(..)\n": api.ErrForm, "a:(. .)\n": api.ErrForm, "a:(.,)\n": api.ErrForm, "a:(,.)\n": api.ErrForm, "a:(.,.\n": api.ErrForm, "a:.,.\n": api.ErrForm, "a:.,.)\n": api.ErrForm, "a:(.,.))\n": api.ErrForm, "a:((.,.)\n": api.ErrForm, "a:(.,.).\n": api.ErrForm, "a:(.*.)\n": api.ErrForm, "a:(.!.)\n": api.ErrForm, "a:(.~.)\n": api.ErrForm, "a:(...)\n": api.ErrForm, "a:(.(.)\n": api.ErrForm, "a:(.,.]\n": api.ErrForm, "a:(.\x00.)\n": api.ErrForm,
		"a:*\n": api.ErrForm, "a:!\n": api.ErrForm, "a:.*\n": api.ErrForm, "a:*(.,.\n": api.ErrForm, "a:..\n": api.ErrForm, "a:,\n": api.ErrForm, "a:|\n": api.ErrForm, "a:&\n": api.ErrForm, "a:%\n": api.ErrForm, "a:+.\n": api.ErrForm, "a:)\n": api.ErrForm, "a:]\n": api.ErrForm, "a:a b\n": api.ErrForm, "a:a.\n": api.ErrForm, "a:.a\n": api.ErrForm, "a:A\n": api.ErrForm, "a:1\n": api.ErrForm, "a:7\n": api.ErrForm, "a:\"x\"\n": api.ErrForm,
		"a:[A]a\n": api.ErrForm, "a:[]a\n": api.ErrForm, "a:[ a]a\n": api.ErrForm, "a:[a a\n": api.ErrForm, "a:[a\n": api.ErrForm, "a:[a]\n": api.ErrForm, "a:[a].\n": api.ErrForm, "a:[a](a,a)\n": api.ErrForm, "a:[a]]a\n": api.ErrForm, "a:[[a]]a\n": api.ErrForm, "a:[a]A\n": api.ErrForm, "a:[a]1\n": api.ErrForm, "a:[a][a]a\n": api.ErrForm, "a:[a]a[a]a\n": api.ErrForm, "a:[\"]a\n": api.ErrForm, "a:[\"]\"a\n": api.ErrForm, "a:[\"\\\"]a\n": api.ErrForm, "a:[\"\\]\"]a\n": api.ErrForm, "a:[\\\"]a\n": api.ErrForm, "a:[\"a\nb\"]a\n": api.ErrForm, "a:[<6/8]a\n": api.ErrForm, "a:[a|b]a\n": api.ErrForm, "a:[a]a]\n": api.ErrForm, "a:[a\n]a\n": api.ErrForm, "a:[*\"]\"]a\n": api.ErrForm,
		"a:b\n": api.ErrAbsent, "a:a\nb:c\n": api.ErrAbsent, "a:[b]b\n": api.ErrAbsent, "a:b\nb:(\n": api.ErrForm, "a:b\nc:~": api.ErrForm, "a:abcdefghi\n": api.ErrAbsent, "abcdefghi:x\n": api.ErrAbsent, "a:[abcdefghi]x\n": api.ErrAbsent, "a:a\na:x\n": api.ErrAbsent, "a:" + times("!", 60) + "x\n": api.ErrAbsent, times("a:~\n", 13) + "b:x\n": api.ErrAbsent, "a:[aa]aa\n": api.ErrAbsent, "a1:a\n": api.ErrAbsent, "a:~\nab:a b\n": api.ErrForm,
		"a:a\n": api.ErrOrder, "a:b\nb:.\n": api.ErrOrder, "a:.\nb:(a,b)\n": api.ErrOrder, "a:.\na:.\n": api.ErrTwice, "a:.\na:a\n": api.ErrTwice, "a:a\na:.\n": api.ErrOrder, "abcdefghi:.\n": api.ErrName, "abcdefghi:abcdefghi\n": api.ErrName, "a:.\nabcdefghi:.\na:.\n": api.ErrName, "": api.ErrMany,
		"a:[abcdefghi]a\n": api.ErrName, "a:[@abcdefghi]a\n": api.ErrName, "a:[<1001]a\n": api.ErrRange, "a:[@a=\"1234567890123\"]a\n": api.ErrRange, "a:[" + times("!", 24) + "a]a\n": api.ErrMany, "a:[" + times("!", 24) + "abcdefghi]a\n": api.ErrMany, "a:[" + times("!", 23) + "abcdefghi]a\n": api.ErrName,
		// the error that comes first
		"a:([abcdefghi]a,[<1001]a)\n": api.ErrName, "a:([<1001]a,[abcdefghi]a)\n": api.ErrRange, "a:([a]a,[<1001]a)\n": api.ErrRange, "a:([b]a,([a]a,[abcdefghi]a))\nb:[<1001]a\n": api.ErrName, "a:([abcdefghi]a,a)\n": api.ErrName, "a:(a,[abcdefghi]a)\n": api.ErrOrder, "a:[abcdefghi]a\na:.\n": api.ErrName, "a:.\na:[<1001]a\n": api.ErrTwice, "a:[<1001]a\nabcdefghi:.\n": api.ErrRange, "a:[<1001]b\nb:b\n": api.ErrRange, "a:[b]b\nb:(b,[<1001]a)\n": api.ErrOrder, "a:([<1001]a," + times("!", 58) + ".)\n": api.ErrMany, "a:([a]a|([b]a|([c]a|([d]a|([e]a|[<1001]a)))))\n": api.ErrRange, "a:([a]a|([b]a|([c]a|([d]a|[e]a))))\n": api.ErrLimit,
		"a:" + times("!", 60) + ".\n": api.ErrMany, times("a:.\n", 13): api.ErrMany, times("a:.\n", 12): api.ErrTwice, "a:" + times("!", 19996) + ".\n": api.ErrMany, "a:" + times("!", 19997) + ".\n": api.ErrLimit, "a:" + times("!", 19998): api.ErrForm, "a:" + times("(", 19998): api.ErrForm, times("a", 20000): api.ErrForm, times("a", 20001): api.ErrLimit, times("\n", 20000): api.ErrForm, "a:" + times("[", 19998): api.ErrForm, times("a", 19997) + ":~\n": api.ErrName, times("a:~\n", 5000): api.ErrMany, "a:[\"" + times("]", 19990): api.ErrForm, times("a:[a]b\n", 2000): api.ErrAbsent,
	} {
		g, e := grammar.Parse(s)
		same(t, e, want, "Parse", s)
		same(t, plain(g), plain(api.Grammar{}), "Parse with an error", s)
	}
	for _, s := range []string{"a:" + times("!", 59) + ".\n", "z9z9z9z9:[z9]z9z9z9z9\n", "a:[b]b\nb:[a]a\n", "a:[\"]\"]a\n", "a:[@a=\"\\\"]\"]a\n", "a:([\"a\"]a|[\"]a|[\"]a)\n", "a:[(^\"[\"|\"\\\\\")]a\n", "a:[" + times("!", 23) + "a]a\n", "a:[<1000]a\n"} {
		same(t, grammarText(must(t, s)), s, "Parse")
	}
	// of several definitions with the same name the first one is meant, as the order of errors tells
	_, e := grammar.Parse("a:.\nb:a\na:.\n")
	same(t, e, api.ErrTwice, "Parse of a name that is there twice")
	_, e = grammar.Parse("b:.\na:b\nb:.\n")
	same(t, e, api.ErrTwice, "Parse of a name that is there twice")
	_, e = grammar.Parse("a:~\nc:b\nb:.\nb:.\n")
	same(t, e, api.ErrOrder, "Parse of a name that is there twice, behind")
}

var (
	treesIn  = regexp.MustCompile(`G[a-z][a-z0-9]*|[a-z][a-z0-9]*|[~.]`)
	jointsIn = regexp.MustCompile(`[*!]E|\(E[,|&%]E\)`)
	lineForm = regexp.MustCompile(`^([a-z][a-z0-9]*):E$`)
)

// formed is whether a text has the form of one of a grammar: brackets are made G, all that has no expressions in it E, and what is made of these E again, until nothing is left to be made.
func formed(s string) bool {
	if s == "" || strings.Contains(s, "\x01") {
		return s == ""
	}
	l := strings.Split(s, "\n")
	if l[len(l)-1] != "" {
		return false
	}
	for _, line := range l[:len(l)-1] {
		line = strings.NewReplacer("G", "?", "E", "?").Replace(bracketed(line))
		name, body, _ := strings.Cut(strings.ReplaceAll(line, "\x01", "G"), ":")
		body = treesIn.ReplaceAllString(body, "E")
		for before := ""; before != body; {
			before, body = body, jointsIn.ReplaceAllString(body, "E")
		}
		if !lineForm.MatchString(name + ":" + body) {
			return false
		}
	}
	return true
}

// bracketed makes the brackets of guards a byte that no text has.
func bracketed(s string) string {
	return bracketsIn.ReplaceAllStringFunc(s, func(s string) string {
		if _, e := guard.Parse(s[1 : len(s)-1]); e == api.ErrForm {
			return "?"
		}
		return "\x01"
	})
}

// P5.5: texts have the form just if this is so by the rules of formed; what is parsed is printed as it was.
func TestForm(t *testing.T) {
	r := rand.New(rand.NewPCG(5, 5))
	pieces := []string{"~", ".", "[a]", "[", "]", "[\"]\"]", "\"", "a", "b1", ":", "\n", "(", ")", ",", "|", "*", "&", "!", "%", " ", "A", "\\", "1", "\x00", "\xff", "[*]a", "a:", "G", "E", "\x01"}
	count := 0
	try := func(s string) {
		g, e := grammar.Parse(s)
		want := formed(s)
		same(t, e != api.ErrForm, want, "form", s)
		if want && e == api.OK {
			same(t, grammarText(g), s, "Parse")
			count++
		}
	}
	for _, x := range pieces {
		for _, y := range pieces {
			for _, z := range pieces {
				try("a:" + x + y + z + "\n")
			}
			try("a:.\n" + x + y)
			try(x + y)
		}
	}
	for seed := range uint64(4000) {
		s := grammarText(newMaker(seed, allSorts).grammar(3, 6))
		for range r.IntN(3) {
			at := r.IntN(len(s) + 1)
			end := min(len(s), at+r.IntN(2))
			s = s[:at] + pieces[r.IntN(len(pieces))][:r.IntN(2)] + s[end:]
		}
		try(s)
	}
	for b := range 256 {
		for _, x := range [][2]string{{"", ""}, {"a:", "\n"}, {"a", ":.\n"}, {"a:(.", ".)\n"}, {"a:[", "]a\n"}, {"a:[a]", "\n"}, {"a:[a]a", "\n"}, {"a:[\"", "\"]a\n"}, {"a:[\"\\", "\"]a\n"}, {"a:.", ""}, {"a", ".\n"}, {"a:[a", "a\n"}, {"a:.\n", ""}, {"a:", ".\n"}} {
			try(x[0] + string([]byte{byte(b)}) + x[1])
		}
	}
	same(t, count > 1500, true, "texts that have the form", count)
}

// P5.5 and P0.2: the error of what is parsed is that of Check.
func TestParseErrors(t *testing.T) {
	seen := map[api.Errno]int{}
	for seed := range uint64(4000) {
		m := newMaker(seed, allSorts)
		g := m.grammar(4, 9)
		for range 1 + m.IntN(3) {
			spoil(m.Rand, &g)
		}
		want := errorOf(g)
		s, is := writable(g)
		if !is {
			continue
		}
		seen[want]++
		_, e := grammar.Parse(s)
		if formed(s) {
			same(t, e, want, "Parse", s)
		} else {
			same(t, e, api.ErrForm, "Parse", s)
		}
	}
	for _, e := range []api.Errno{api.OK, api.ErrMany, api.ErrName, api.ErrRange, api.ErrTwice, api.ErrOrder, api.ErrLimit} {
		same(t, seen[e] > 20, true, "how often there is the error", e, seen)
	}
}

// writable returns the text of a grammar, and whether it has one: all that names can name is there, once, and nothing is there that no text has.
func writable(g api.Grammar) (s string, is bool) {
	names := map[string]bool{}
	for def, d := range g.Defs {
		if names[d.Name] {
			for _, r := range allOf(g) { // it names the first one
				if (r.Op == api.RTree || r.Op == api.RRef) && r.Def == def {
					return "", false
				}
			}
		}
		names[d.Name] = true
		for _, r := range flat(d.Body) {
			if e := errorAt(g, def, r); e == api.ErrForm || e == api.ErrAbsent {
				return "", false
			}
		}
	}
	return grammarText(g), true
}
