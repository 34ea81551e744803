package event_test

import (
	"fmt"
	"math/big"
	"math/rand/v2"
	"slices"
	"strings"
	"testing"

	"withy/api"
	"withy/event"
	"withy/tree"
)

// The tests hold what the functions return against texts of events that are made here, so that no code is shared with the package: `<` and a head where an element begins, `>` where it ends, `.` and a head for a number or a text.

func attr(name, value string) api.Attr { return api.Attr{Name: name, Value: value} }

func head(label string, attrs ...api.Attr) api.Head { return api.Head{Label: label, Attrs: attrs} }

func elem(label string, kids ...api.Tree) api.Tree { return api.Tree{Head: head(label), Kids: kids} }

func number(n, d int) api.Tree {
	return api.Tree{Head: api.Head{Kind: api.Number, Num: api.Num{N: n, D: d}}}
}

func text(s string) api.Tree { return api.Tree{Head: api.Head{Kind: api.Text, Text: s}} }

func open(h api.Head) api.Event { return api.Event{Kind: api.EvOpen, Head: h} }

func shut() api.Event { return api.Event{Kind: api.EvClose} }

func leaf(h api.Head) api.Event { return api.Event{Kind: api.EvLeaf, Head: h} }

// exampleText is F of the chapter.
const exampleText = `a(k="v"){"hi" 3/4} b`

func example() []api.Tree {
	a := elem("a", text("hi"), number(3, 4))
	a.Attrs = []api.Attr{attr("k", "v")}
	return []api.Tree{a, elem("b")}
}

// chain is an element in another one, so many times, around a forest.
func chain(count int, f ...api.Tree) []api.Tree {
	for range count {
		f = []api.Tree{elem("a", f...)}
	}
	return f
}

func row(count int) []api.Tree { return slices.Repeat([]api.Tree{elem("b")}, count) }

// endless is a forest that holds itself.
func endless() []api.Tree {
	f := []api.Tree{elem("a")}
	f[0].Kids = f
	return f
}

// heads are valid ones of all kinds, up to their bounds.
func heads() []api.Head {
	return []api.Head{
		head("a"), head("b"), head("ab"), head("a1"), head("abcdefgh"), head("z9z9z9z9"),
		head("a", attr("x", "")), head("a", attr("x", "1")), head("a", attr("x", "1"), attr("y", "")), head("x", attr("xx", "x")), head("a", attr("x", `"\`)), head("b", attr("a", "b"), attr("b", "a")),
		head("a", attr("a", "123456789012"), attr("b", "~"), attr("c0000000", " ")),
		number(0, 1).Head, number(7, 1).Head, number(-2, 1).Head, number(3, 4).Head, number(-1, 2).Head, number(1, 300).Head, number(-65, 64).Head, number(api.MaxNum, 1).Head, number(-api.MaxNum, api.MaxNum-1).Head, number(1, api.MaxNum).Head,
		text("").Head, text("a").Head, text("ab").Head, text("x").Head, text("7").Head, text(" ").Head, text(`"`).Head, text(`\`).Head, text(`\"\\""`).Head, text("{}(),=~!").Head, text(strings.Repeat("x", api.MaxText)).Head,
	}
}

// random returns a forest of at most so many trees.
func random(r *rand.Rand, count int) []api.Tree {
	var f []api.Tree
	for left := r.IntN(count + 1); left > 0; {
		t := api.Tree{Head: heads()[r.IntN(len(heads()))]}
		left--
		if t.Kind == api.Elem {
			t.Kids = random(r, left)
			left -= sizeOf(t.Kids)
		}
		f = append(f, t)
	}
	return f
}

func sizeOf(f []api.Tree) int {
	size := 0
	for _, t := range f {
		size += 1 + sizeOf(t.Kids)
	}
	return size
}

// samples are forests of all sizes, the same ones each time.
func samples(count int) [][]api.Tree {
	r := rand.New(rand.NewPCG(4, uint64(count)))
	l := [][]api.Tree{nil, {}, example(), row(api.MaxTrees), row(api.MaxTrees - 1), chain(api.MaxDeep), chain(api.MaxDeep-1, row(3)...), chain(2, row(api.MaxTrees-2)...)}
	for _, h := range heads() {
		l = append(l, []api.Tree{{Head: h}})
	}
	for i := range count {
		l = append(l, random(r, 1+i%15))
	}
	return l
}

// told is an event as a text.
func told(x api.Event) string {
	switch x.Kind {
	case api.EvOpen:
		return "<" + headText(x.Head)
	case api.EvClose:
		return ">"
	}
	return "." + headText(x.Head)
}

func toldAll(l []api.Event) string {
	var s []string
	for _, x := range l {
		s = append(s, told(x))
	}
	return strings.Join(s, " ")
}

// wanted are the events of a forest as texts.
func wanted(f []api.Tree) []string {
	var l []string
	for _, t := range f {
		h := headText(t.Head)
		if t.Kind != api.Elem {
			l = append(l, "."+h)
			continue
		}
		l = append(l, "<"+h)
		l = append(l, wanted(t.Kids)...)
		l = append(l, ">")
	}
	return l
}

func headText(h api.Head) string {
	switch h.Kind {
	case api.Number:
		if h.Num.D == 0 {
			return "none"
		}
		return strings.TrimSuffix(big.NewRat(int64(h.Num.N), int64(h.Num.D)).String(), "/1")
	case api.Text:
		return stringText(h.Text)
	}
	var l []string
	for _, a := range h.Attrs {
		l = append(l, a.Name+"="+stringText(a.Value))
	}
	if len(l) == 0 {
		return h.Label
	}
	return h.Label + "(" + strings.Join(l, ",") + ")"
}

func stringText(s string) string {
	return `"` + strings.ReplaceAll(strings.ReplaceAll(s, `\`, `\\`), `"`, `\"`) + `"`
}

// forestText is the text of a forest.
func forestText(f []api.Tree) string {
	var l []string
	for _, t := range f {
		s := headText(t.Head)
		if len(t.Kids) > 0 {
			s += "{" + forestText(t.Kids) + "}"
		}
		l = append(l, s)
	}
	return strings.Join(l, " ")
}

func same[T comparable](t *testing.T, got, want T, what ...any) {
	t.Helper()
	if got != want {
		t.Errorf("%s: %s, not %s", brief(what), brief(got), brief(want))
	}
}

func brief(x any) string {
	s := fmt.Sprintf("%v", x)
	if len(s) > 300 {
		return s[:150] + ".." + s[len(s)-150:]
	}
	return s
}

func must(t *testing.T, s string) []api.Tree {
	t.Helper()
	f, e := tree.Parse(s)
	if e != api.OK {
		t.Fatalf("Parse(%q): %v", s, e)
	}
	return f
}

// eventsOf are those of a forest that is valid.
func eventsOf(t *testing.T, f []api.Tree) []api.Event {
	t.Helper()
	l, e := event.Of(f)
	if e != api.OK {
		t.Fatalf("Of(%.200s): %v", forestText(f), e)
	}
	return l
}

type wrongEvents struct {
	l []api.Event
	e api.Errno
}

// wrongHeads are heads that are not valid, with their errors.
func wrongHeads() []struct {
	api.Head
	e api.Errno
} {
	return []struct {
		api.Head
		e api.Errno
	}{
		{head(""), api.ErrName}, {head("A"), api.ErrName}, {head("abcdefghi"), api.ErrName}, {head("1a"), api.ErrName}, {head("a "), api.ErrName}, {api.Head{Label: "a", Text: "x"}, api.ErrForm}, {api.Head{Label: "a", Num: api.Num{N: 1, D: 1}}, api.ErrForm},
		{head("a", make([]api.Attr, 4)...), api.ErrMany}, {head("a", attr("", "")), api.ErrName}, {head("a", attr("y", ""), attr("x", "")), api.ErrOrder}, {head("a", attr("x", ""), attr("x", "")), api.ErrOrder}, {head("a", attr("x", "1234567890123")), api.ErrRange}, {head("a", attr("x", "\n")), api.ErrRange},
		{number(2, 4).Head, api.ErrForm}, {number(1, 0).Head, api.ErrRange}, {number(1, -1).Head, api.ErrRange}, {number(api.MaxNum+1, 1).Head, api.ErrRange}, {api.Head{Kind: api.Number, Num: api.Num{N: 1, D: 1}, Text: "x"}, api.ErrForm},
		{text(strings.Repeat("x", 25)).Head, api.ErrRange}, {text("\x7f").Head, api.ErrRange}, {text("é").Head, api.ErrRange}, {api.Head{Kind: api.Text, Label: "a"}, api.ErrForm},
	}
}

// wrongBeginnings are events with errors of a beginning, in the order of the chapter where there are several.
func wrongBeginnings() []wrongEvents {
	a, x, seven := open(head("a")), leaf(text("x").Head), leaf(number(7, 1).Head)
	full := slices.Repeat([]api.Event{x}, api.MaxTrees)
	pairs := slices.Repeat([]api.Event{a, shut()}, api.MaxTrees)
	deep := slices.Repeat([]api.Event{a}, api.MaxDeep)
	bad := open(head("A"))
	l := []wrongEvents{
		{[]api.Event{{Kind: 3}}, api.ErrForm}, {[]api.Event{{Kind: -1}}, api.ErrForm}, {[]api.Event{{Kind: 1 << 40, Head: head("a")}}, api.ErrForm},
		{[]api.Event{{Kind: api.EvClose, Head: head("a")}}, api.ErrForm}, {[]api.Event{a, {Kind: api.EvClose, Head: head("a")}}, api.ErrForm}, {[]api.Event{a, {Kind: api.EvClose, Head: api.Head{Kind: api.Text}}}, api.ErrForm}, {[]api.Event{a, {Kind: api.EvClose, Head: api.Head{Text: "x"}}}, api.ErrForm}, {[]api.Event{a, {Kind: api.EvClose, Head: api.Head{Num: api.Num{N: 1}}}}, api.ErrForm}, {[]api.Event{a, {Kind: api.EvClose, Head: api.Head{Num: api.Num{D: 1}}}}, api.ErrForm}, {[]api.Event{a, {Kind: api.EvClose, Head: head("", attr("", ""))}}, api.ErrForm},
		{[]api.Event{open(x.Head)}, api.ErrForm}, {[]api.Event{open(seven.Head)}, api.ErrForm}, {[]api.Event{open(number(2, 4).Head)}, api.ErrForm}, {[]api.Event{open(api.Head{Kind: 3, Label: "a"})}, api.ErrForm}, {[]api.Event{open(text("\n").Head)}, api.ErrForm}, {[]api.Event{leaf(a.Head)}, api.ErrForm}, {[]api.Event{leaf(head("A"))}, api.ErrForm}, {[]api.Event{leaf(api.Head{Kind: 3})}, api.ErrForm}, {[]api.Event{leaf(api.Head{Kind: -1, Label: "a"})}, api.ErrForm},
		{[]api.Event{shut()}, api.ErrOrder}, {[]api.Event{x, shut()}, api.ErrOrder}, {[]api.Event{a, shut(), shut()}, api.ErrOrder}, {[]api.Event{a, a, shut(), shut(), shut(), a}, api.ErrOrder}, {[]api.Event{shut(), bad}, api.ErrOrder}, {[]api.Event{bad, shut(), shut()}, api.ErrName}, {[]api.Event{a, shut(), shut(), {Kind: 7}}, api.ErrOrder}, {[]api.Event{a, {Kind: 7}, shut()}, api.ErrForm},
		{append(slices.Clone(full), x), api.ErrMany}, {append(slices.Clone(full), a), api.ErrMany}, {append(slices.Clone(full), shut()), api.ErrOrder}, {append(slices.Clone(full), bad), api.ErrName}, {append(slices.Clone(full), api.Event{Kind: 3}), api.ErrForm}, {append(slices.Clone(pairs), a), api.ErrMany}, {append(slices.Clone(pairs), seven), api.ErrMany}, {slices.Concat([]api.Event{a}, full), api.ErrMany}, {slices.Concat(deep, []api.Event{shut()}, full), api.ErrMany}, {append(slices.Clone(full), x, shut()), api.ErrMany},
		{append(slices.Clone(deep), a), api.ErrLimit}, {append(slices.Clone(deep), x), api.ErrLimit}, {append(slices.Clone(deep), shut(), a, seven), api.ErrLimit}, {append(slices.Clone(deep), bad), api.ErrName}, {append(slices.Clone(deep), open(x.Head)), api.ErrForm}, {slices.Repeat(deep, 20), api.ErrLimit},
		{slices.Concat(full[:api.MaxTrees-api.MaxDeep], deep, []api.Event{x}), api.ErrMany}, {slices.Concat(full[:api.MaxTrees-api.MaxDeep-1], deep, []api.Event{x}), api.ErrLimit},
		{slices.Repeat([]api.Event{x}, 100000), api.ErrMany},
	}
	for _, h := range wrongHeads() {
		x := leaf(h.Head)
		if h.Kind == api.Elem {
			x = open(h.Head)
		}
		l = append(l, wrongEvents{[]api.Event{x}, h.e}, wrongEvents{[]api.Event{a, x, {Kind: 9}}, h.e})
	}
	return l
}

// unended are beginnings of events behind which something is open.
func unended() [][]api.Event {
	a, x := open(head("a")), leaf(text("x").Head)
	return [][]api.Event{{a}, {a, a, shut()}, {x, a, x}, slices.Repeat([]api.Event{a}, api.MaxDeep), slices.Concat([]api.Event{a}, slices.Repeat([]api.Event{x}, api.MaxTrees-1)), {a, shut(), open(head("b", attr("k", "v")))}}
}
