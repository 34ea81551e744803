package event_test

import (
	"math/rand/v2"
	"slices"
	"strings"
	"testing"

	"withy/api"
	"withy/event"
	"withy/tree"
)

// fed feeds a text in pieces, which end at the cuts and at its end, and holds all that the reader returns against what it has to do.
func fed(t *testing.T, s string, cuts ...int) {
	t.Helper()
	want := readingOf(s)
	r := event.New()
	from, deep, e := 0, 0, api.OK
	for _, to := range append(slices.Clone(cuts), len(s)) {
		l, got := r.Feed([]byte(s[from:to]))
		brings := want.between(from, to)
		if want.e != api.OK && want.stop < to {
			e, brings, deep = want.e, "", 0
		}
		deep += strings.Count(" "+toldAllMarks(l), " <") - strings.Count(" "+toldAllMarks(l), " >")
		same(t, got, e, "Feed", s, from, to)
		same(t, toldAll(l), brings, "Feed", s, from, to)
		taken := to
		if e != api.OK {
			taken = want.stop
		}
		same(t, r.Taken(), taken, "Taken", s, to)
		same(t, r.Deep(), deep, "Deep", s, to)
		from = to
	}
	l, got := r.Done()
	brings := want.between(len(s), len(s)+1)
	after := api.ErrState
	if want.e != api.OK {
		brings, after = "", want.e
	}
	same(t, got, want.e, "Done", s, cuts)
	same(t, toldAll(l), brings, "Done", s, cuts)
	taken := len(s)
	if want.e != api.OK {
		taken = want.stop
	}
	stays(t, r, after, taken, s)
}

// toldAllMarks are the marks of events alone.
func toldAllMarks(l []api.Event) string {
	var s []string
	for _, x := range l {
		s = append(s, told(x)[:1])
	}
	return strings.Join(s, " ")
}

// stays is for a reader that takes nothing more.
func stays(t *testing.T, r *event.Reader, e api.Errno, taken int, what ...any) {
	t.Helper()
	for _, b := range []string{"", "a", " b", "}"} {
		l, got := r.Feed([]byte(b))
		same(t, got, e, "Feed behind the end", what, b)
		same(t, len(l), 0, "Feed behind the end", what, b)
		l, got = r.Done()
		same(t, got, e, "Done behind the end", what, b)
		same(t, len(l), 0, "Done behind the end", what, b)
		same(t, r.Taken(), taken, "Taken behind the end", what, b)
		same(t, r.Deep(), 0, "Deep behind the end", what, b)
	}
}

// each are all places at which a text of so many bytes can be cut.
func each(count int) []int {
	var l []int
	for i := range count {
		l = append(l, i)
	}
	return l
}

// P4.3: readers take each byte as it has to be. P4.6: and in all pieces.
func TestReader(t *testing.T) {
	r := rand.New(rand.NewPCG(4, 4))
	for _, f := range samples(300) {
		s := forestText(f)
		fed(t, s)
		fed(t, s, each(len(s))...)
		for range 3 {
			cuts := []int{r.IntN(len(s) + 1), r.IntN(len(s) + 1), r.IntN(len(s) + 1), r.IntN(len(s) + 1)}
			slices.Sort(cuts)
			fed(t, s, cuts...)
		}
	}
}

// P4.6: all pieces of some texts, those with errors among them.
func TestPieces(t *testing.T) {
	for _, s := range []string{exampleText, "a{3/6} ", `a(x="\"")`, "-1/2 7", `"a" b!`, "a{b{c}}}", `abcdefghi{`, `a(y="",x="")`, `a(x="",`, ""} {
		for bits := range 1 << max(len(s)-1, 0) {
			var cuts []int
			for i := range s {
				if bits>>i&1 == 1 {
					cuts = append(cuts, i+1)
				}
			}
			if len(s) > 12 && bits%97 > 0 {
				continue
			}
			fed(t, s, cuts...)
		}
	}
}

// P4.3: the examples of the chapter.
func TestReaderExamples(t *testing.T) {
	type call struct {
		feed, want string
		e          api.Errno
	}
	for i, x := range []struct {
		calls []call // the last one is Done
		taken int
	}{
		{[]call{{`a(k="v`, "", api.OK}, {`"){"hi" 3`, `<a(k="v") ."hi"`, api.OK}, {"/4", "", api.OK}, {"} b", ".3/4 >", api.OK}, {"", "<b >", api.OK}}, 20},
		{[]call{{"a{3/6", "<a", api.OK}, {"} ", "", api.ErrForm}, {"", "", api.ErrForm}}, 5},
		{[]call{{"a{", "<a", api.OK}, {"", "", api.ErrForm}}, 2},
	} {
		r := event.New()
		for k, c := range x.calls {
			does := func() ([]api.Event, api.Errno) { return r.Feed([]byte(c.feed)) }
			if k == len(x.calls)-1 {
				does = r.Done
			}
			l, e := does()
			same(t, toldAll(l), c.want, "call", i, k)
			same(t, e, c.e, "call", i, k)
		}
		same(t, r.Taken(), x.taken, "Taken", i)
	}
}

// every returns all texts of at most so many pieces.
func every(pieces []string, count int) []string {
	l := []string{""}
	for from := 0; count > 0; count-- {
		to := len(l)
		for _, s := range l[from:to] {
			for _, p := range pieces {
				l = append(l, s+p)
			}
		}
		from = to
	}
	return l
}

// takes feeds a text, whole and byte by byte, and holds it against tree.Parse.
func takes(t *testing.T, s string) {
	t.Helper()
	fed(t, s)
	fed(t, s, each(len(s))...)
	r := event.New()
	l, e := r.Feed([]byte(s))
	if e == api.OK {
		var more []api.Event
		more, e = r.Done()
		l = append(l, more...)
	}
	f, want := tree.Parse(s)
	same(t, e == api.OK, want == api.OK, "P4.7: read just if it is parsed", s)
	if e == api.OK {
		same(t, toldAll(l), strings.Join(wanted(f), " "), "P4.7: what is read", s)
		g, e := event.Trees(l)
		same(t, e, api.OK, "P4.7: events", s)
		same(t, forestText(g), s, "P4.7: their forest")
	}
}

// P4.3 and P4.7: all texts of some pieces.
func TestReaderAll(t *testing.T) {
	for _, l := range [][]string{
		every([]string{"a", "1", "{", "}", " ", `"`}, 5),
		every([]string{"a", "-", "0", "2", "4", "/", " "}, 4),
		every([]string{`"`, `\`, "n", " ", "a"}, 5),
		every([]string{"b", `(x="")`, "(", "x=", `""`, ",", ")", `{"a(x="}`, " "}, 4),
		every([]string{"a{", "}", "7", " ", `""`, "\n", "A", ".", "+"}, 3),
		every([]string{"abcdefghi", "a", "{", "}", " ", "!", "6/8", `a(y="",x=""`, ")"}, 4),
	} {
		for _, s := range l {
			takes(t, s)
		}
	}
	for i := range 256 {
		b := string([]byte{byte(i)})
		for _, s := range []string{b, "a" + b, b + "a", "a" + b + "b", "7" + b, b + "7", "-" + b, `"` + b + `"`, `"\` + b + `"`, "a{" + b + "}", "a{b" + b + "}", "a{b}" + b, "a(" + b + `="")`, `a(x` + b + `="")`, `a(x` + b + `"")`, `a(x=` + b + `")`, `a(x="` + b + `")`, `a(x="\` + b + `")`, `a(x=""` + b, `a(x="")` + b, `a(x="")` + b + "b}", `a(x=""` + b + `y="")`, `""` + b, "a b" + b + "c"} {
			takes(t, s)
		}
	}
}

// P4.3 and P4.7: texts with a byte that was taken out, put in, or changed.
func TestReaderChanged(t *testing.T) {
	bytes := "a7-/ {}()=,\"\\\n"
	for _, f := range samples(25) {
		s := forestText(f)
		if len(s) > 50 {
			continue
		}
		for i := range len(s) + 1 {
			for k := range len(bytes) {
				takes(t, s[:i]+bytes[k:k+1]+s[i:])
				if i < len(s) {
					takes(t, s[:i]+bytes[k:k+1]+s[i+1:])
				}
			}
			if i < len(s) {
				takes(t, s[:i]+s[i+1:])
			}
		}
	}
}

// completed tells whether something can come behind a text so that it has the form of one. What is tried ends each thing that can have begun.
func completed(s string) bool {
	for _, end := range []string{"", "a", "7", `"`, `\"`, `""`, `""`, `x="")`, `="")`, `"")`, `")`, `\")`, ")"} {
		for braces := range strings.Count(s, "{") + 1 {
			if _, e := tree.Parse(s + end + strings.Repeat("}", braces)); e != api.ErrForm {
				return true
			}
		}
	}
	return false
}

// P4.3: ErrForm comes at the first byte that cannot come there, by all texts that begin like that.
func TestFirstByte(t *testing.T) {
	for _, s := range slices.Concat(every([]string{"a", "{", "}", " ", `"`, "(", `b="`, ",", ")", `\`, "=", "!"}, 4), []string{`a(x="\"",y="")7`, "a{b{}}", `a{"x"b`, "a{b} }", `a(x="",)`, `"\a"`, `a{b(c="d"){e}f`}) {
		r := event.New()
		_, e := r.Feed([]byte(s))
		if e != api.OK && e != api.ErrForm {
			continue // a head is wrong
		}
		same(t, completed(s[:r.Taken()]), true, "what comes before it", s)
		if e == api.ErrForm {
			same(t, completed(s[:r.Taken()+1]), false, "the byte", s)
		} else {
			same(t, r.Taken(), len(s), "Taken", s)
		}
	}
}

// P4.3: several errors at one byte, or at the end, and heads with errors.
func TestReaderErrors(t *testing.T) {
	many := strings.Repeat("a ", api.MaxTrees)
	deep := strings.Repeat("a{", api.MaxDeep)
	type at struct {
		taken int
		e     api.Errno
	}
	for s, want := range map[string]at{
		"abcdefghi!": {9, api.ErrName}, "abcdefghi": {9, api.ErrName}, "a{abcdefghi": {11, api.ErrName}, "abcdefghi{": {9, api.ErrName}, "abcdefghi(": {10, api.ErrForm}, "abcdefghi(x)": {11, api.ErrForm}, `abcdefghi(x="")`: {14, api.ErrName}, `a(abcdefghi="")`: {14, api.ErrName},
		strings.Repeat("a", 100): {100, api.ErrName}, strings.Repeat("a", 100) + "}": {100, api.ErrName}, strings.Repeat("7", 100) + " ": {100, api.ErrForm}, "1" + strings.Repeat("0", 30) + "/7": {33, api.ErrForm}, "0" + strings.Repeat("0", 100): {101, api.ErrForm},
		`a(y="",x="")`: {11, api.ErrOrder}, `a(y="",x=""`: {11, api.ErrForm}, `a(x="",x="")7`: {11, api.ErrOrder}, `a(a="",b="",c="",d="")`: {21, api.ErrMany}, `a(d="",c="",b="",a="")`: {21, api.ErrMany}, `a(e="",d="",c="",b="",a="",!`: {27, api.ErrForm}, `A(x="")`: {0, api.ErrForm}, `a(x="1234567890123")`: {19, api.ErrRange},
		`"` + strings.Repeat("x", 25) + `"`: {26, api.ErrRange}, `"` + strings.Repeat("x", 25) + `" `: {26, api.ErrRange}, `"` + strings.Repeat("x", 25): {26, api.ErrForm}, `"` + strings.Repeat("x", 25) + "\n": {26, api.ErrForm}, `a{"` + strings.Repeat(`\"`, 25) + `"`: {53, api.ErrRange}, `"` + strings.Repeat("x", 3000) + `"`: {3001, api.ErrRange},
		many[:len(many)-1]: {799, api.OK}, many: {800, api.ErrForm}, many + "a": {801, api.ErrMany}, many + "a!": {801, api.ErrMany}, many + "a ": {801, api.ErrMany}, many + "a(": {802, api.ErrForm}, many + "abcdefghi": {809, api.ErrName}, many + "7": {801, api.ErrMany}, many + "7!": {801, api.ErrMany}, many + "07!": {802, api.ErrForm}, many + `""`: {801, api.ErrMany}, many + `"`: {801, api.ErrForm}, many + `"\n"`: {802, api.ErrForm}, many + "!": {800, api.ErrForm}, many + "a{b": {801, api.ErrMany},
		many[:len(many)-2] + "a{b}": {801, api.ErrMany}, many[:len(many)-2] + "7 b": {801, api.ErrMany}, many[:len(many)-4] + "a{b}": {800, api.OK},
		deep: {80, api.ErrForm}, deep + "a": {81, api.ErrLimit}, deep + "a}": {81, api.ErrLimit}, deep + "a{": {81, api.ErrLimit}, deep + `a(x="")`: {86, api.ErrLimit}, deep + "7!": {81, api.ErrLimit}, deep + "7": {81, api.ErrLimit}, deep + `""`: {81, api.ErrLimit}, deep + "A": {80, api.ErrForm}, deep + "6/8}": {83, api.ErrForm}, deep[2:] + "a": {79, api.ErrForm}, deep[2:] + "a" + strings.Repeat("}", api.MaxDeep-1): {118, api.OK}, deep[2:] + "a" + strings.Repeat("}", api.MaxDeep): {118, api.ErrForm},
	} {
		got := readingOf(s)
		same(t, got.e, want.e, "the test's reading", s)
		if want.e != api.OK {
			same(t, got.stop, want.taken, "the test's reading", s)
		}
		r := event.New()
		_, e := r.Feed([]byte(s))
		if e == api.OK {
			_, e = r.Done()
		}
		same(t, e, want.e, "error", s)
		same(t, r.Taken(), want.taken, "Taken", s)
		takes(t, s)
	}
}

// P4.3 and R7: the greatest texts.
func TestReaderLimit(t *testing.T) {
	fit := forestText(longText(api.MaxDoc))
	fed(t, fit)
	fed(t, fit, 1, 77, 4000, 19999)
	same(t, readingOf(fit).e, api.OK, "the test's reading")
	label := strings.Repeat("a", api.MaxDoc)
	for _, s := range []string{fit + " ", fit + " a", fit + "!", label, label + "a", label + " ", label + "!", label + "(", fit[:api.MaxDoc-2] + `\`, fit[:api.MaxDoc-1] + "!", fit[:api.MaxDoc-1] + `""`, fit[:api.MaxDoc-1] + "\n" + fit, fit + fit, `"` + label, "a{" + label, "7" + strings.Repeat("/", api.MaxDoc) + " "} {
		fed(t, s)
		fed(t, s, 1, 77, 4000, 19999)
		fed(t, s, min(len(s), api.MaxDoc))
		fed(t, s, each(len(s))...)
	}
	r := event.New()
	r.Feed([]byte(label))
	l, e := r.Feed([]byte(" "))
	same(t, e, api.ErrLimit, "MaxDoc before a head")
	same(t, len(l), 0, "MaxDoc before a head")
	same(t, r.Taken(), api.MaxDoc, "Taken")
	same(t, readingOf(label+" ").e, api.ErrLimit, "the test's reading")
}

// P4.3: a reader that New did not return, or none.
func TestNoReader(t *testing.T) {
	var none *event.Reader
	for i, r := range []*event.Reader{none, new(event.Reader), {}} {
		stays(t, r, api.ErrState, 0, i)
	}
	r := event.New()
	same(t, r.Taken(), 0, "Taken of a new one")
	same(t, r.Deep(), 0, "Deep of a new one")
	l, e := r.Done()
	same(t, e, api.OK, "Done at once")
	same(t, len(l), 0, "Done at once")
	stays(t, r, api.ErrState, 0)
}
